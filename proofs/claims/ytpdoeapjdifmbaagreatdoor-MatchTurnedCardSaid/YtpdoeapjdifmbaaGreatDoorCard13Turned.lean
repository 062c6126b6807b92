/-
  The statement of layer 13 on 'turned' (MatchTurned), proved of the program at this commit: for every input the law's function answers true, and leaves its arguments as they were. Conditions: the given row's own.
-/
import Derived.Test.YtpdoeapjdifmbaaGreatDoorK39
import Derived.Test.YtpdoeapjdifmbaaGreatDoorK40
import Derived.Test.YtpdoeapjdifmbaaGreatDoorK23
import Derived.Test.YtpdoeapjdifmbaaGreatDoorCards
import Derived.Test.YtpdoeapjdifmbaaGreatDoorTie
import Derived.SevenTiedAt
namespace Go.Proofs.YtpdoeapjdifmbaaGreatDoor
open Go.ChangeShapes Go.WideShapes Go.ChangeAt Go.RowKit Rich

set_option maxRecDepth 100000 in
theorem turned13_lifted (os : Os) (started : os.Started) (H : Type) (enc : TypeId × Value → H) :
    ReturnsInHanded {} Tryz.checked os 8 .any (fun w args => (Rows.matchTurnedSpec.pre enc Tryz.prog Tryz.f8 [] false w args ∧ laidMetH Tryz.prog Rows.matchTurnedRow.laid w) ∧ sizedMet enc Tryz.prog Tryz.f8 (OpenSpec.ofChange Rows.matchTurnedSpec) false w args)
      (Rows.matchTurnedSpec.post enc Tryz.prog Tryz.f8 false true false false) := by
  refine law_lift_all Rows.matchTurnedRow.laid os started _ Tryz.f8 Rows.matchTurnedSpec (by kernel_rfl) Tryz.func8 rfl ?_ rfl ?_
    (ChangeSpec.witness_shaped (enc := enc) (C := Tryz.checked) (os := os) (X := fun w _ => laidMetH Tryz.prog Rows.matchTurnedRow.laid w) false (World.laidAll Tryz.prog os Rows.matchTurnedRow.laid) #[.slice none 0 0, .slice none 0 0] 8 (World.laidAll_os _ _ _)
      (World.shaped_of_ZipB (by kernel_rfl) (by kernel_rfl)) (by kernel_rfl) (by kernel_rfl) (by kernel_rfl)
      (by rw [MakeChecks.laidMetH_plain _ _ _ (by kernel_rfl)]; exact laidMet_laidAll _ (by kernel_rfl) (by kernel_rfl))) ?_
  · intro t ht
    rw [Tryz.params8] at ht
    have ht' : t = 22 ∨ t = 23 := by simpa using ht
    rcases ht' with rfl | rfl
    all_goals exact ⟨by kernel_rfl, of_decide_eq_true (by kernel_rfl)⟩
  · intro ds vs W p h
    rw [Tryz.params8] at h
    obtain ⟨v0, vs0, d0, ds0, p0, q0, HV, rfl, rfl, h0, r0⟩ := trodAll_cons h
    obtain ⟨v1, vs1, d1, ds1, p1, q1, rfl, rfl, rfl, h1, r1⟩ := trodAll_cons r0
    obtain ⟨rfl, rfl, rfl⟩ := trodAll_nil r1
    rfl
  · intro W base args ds p hlaid hval hA hz
    rw [Tryz.params8] at hA hval hz
    obtain ⟨v0, vs0, d0, ds0, p0, q0, HV, rfl, rfl, h0, r0⟩ := trodAll_cons hA
    obtain ⟨v1, vs1, d1, ds1, p1, q1, rfl, rfl, rfl, h1, r1⟩ := trodAll_cons r0
    obtain ⟨rfl, rfl, rfl⟩ := trodAll_nil r1
    obtain rfl : args = #[v0, v1] := by cases args; simp_all
    obtain ⟨x0, j0, b0, f0⟩ := repos_open h0 hz (j := 0) rfl rfl (hval 0 _ _ rfl rfl)
    obtain ⟨x1, j1, b1, f1⟩ := pkgs_open h1 hz (j := 1) rfl rfl (hval 1 _ _ rfl rfl)
    have pw := pkW_of (notW_of9 hlaid (by kernel_rfl) (MakeChecks.laidMetH_plain _ _ _ (by kernel_rfl))) (tabW_of9 hlaid (by kernel_rfl) (MakeChecks.laidMetH_plain _ _ _ (by kernel_rfl))) (namesW_of hlaid (by kernel_rfl) (MakeChecks.laidMetH_plain _ _ _ (by kernel_rfl)))
    exact (matchturned_walk x0 x1 v0 v1 W j0 j1 ⟨b0, b1, fun r hr => (f0 r hr).1⟩ (fun p hp => hp.elim (fun h => f1 p h) (fun ⟨r, hr, h⟩ => (f0 r hr).2 p h)) pw).mono fun _ _ h => kept_below h

theorem turned13_of : Rows.MatchTurnedSaid :=
  OpenClaim.holds_of_wide 8 Tryz.f8 rfl rfl rfl rfl rfl rfl rfl ⟨rfl, rfl, rfl, rfl, rfl⟩ rfl rfl rfl rfl rfl (by kernel_rfl) Tryz.func8 (by kernel_rfl)
    (of_decide_eq_true (by kernel_rfl)) (by unfold Func.isWrapper; first | (rw [if_pos (by decide +kernel)]; kernel_rfl) | (rw [if_neg (by decide +kernel)]; exact ⟨rfl, rfl⟩))
    (fun os started H enc _ => turned13_lifted os started H enc)
theorem turned13_card : Rows.MatchTurnedCardSaid :=
  Claim7.holds_tied_plain_at .later [] [.data, .data, .data, .data, .pinned] true (true, "6bf4b76b56db7a0ee59220d8bc90c8e17f93f5f6852e23ec2ae6a01c10ffe953") false
    turned13_of (fun _ h => by cases h) (by kernel_rfl) (fun _ h => by cases h) matchTurned_row_tie rfl ⟨rfl, rfl⟩ (by kernel_rfl) rfl
    (fun f fn hf hfn => by
      obtain rfl : f = 8 := Option.some.inj ((show Tryz.prog.funcNamed "chandlery/chandlerylaw13.MatchTurned" = some 8 by kernel_rfl).symm.trans hf) |>.symm
      obtain rfl : fn = Tryz.f8 := (Option.some.inj (Tryz.func8.symm.trans hfn)).symm
      exact ⟨by kernel_rfl, fun j t ht => by
        rw [Tryz.params8] at ht
        have hm : t ∈ [22, 23] := by simpa using Array.mem_of_getElem? ht
        have hall : ([22, 23].all fun u => !Tryz.prog.wantsStandIn u) = true := by kernel_rfl
        exact (show Tryz.prog.wantsStandIn t = false by simpa using List.all_eq_true.1 hall t hm)⟩)
    (by kernel_rfl)
end Go.Proofs.YtpdoeapjdifmbaaGreatDoor
