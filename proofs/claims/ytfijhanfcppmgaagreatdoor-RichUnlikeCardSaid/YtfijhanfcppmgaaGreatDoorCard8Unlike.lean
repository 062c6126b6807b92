/-
  The statement of layer 8 on 'unlike' (RichUnlike), proved of the program at this commit: for every input the law's function answers true, and leaves its arguments as they were. Conditions: the given row's own.
-/
import Derived.Test.YtfijhanfcppmgaaGreatDoorUnlike08
import Derived.Test.YtfijhanfcppmgaaGreatDoorK09
import Derived.Test.YtfijhanfcppmgaaGreatDoorK10
import Derived.Test.YtfijhanfcppmgaaGreatDoorK27
import Derived.Test.YtfijhanfcppmgaaGreatDoorCards
import Derived.Test.YtfijhanfcppmgaaGreatDoorTie
import Derived.SevenTiedAt
namespace Go.Proofs.YtfijhanfcppmgaaGreatDoor
open Go.ChangeShapes Go.WideShapes Go.ChangeAt Go.RowKit Rich

set_option maxRecDepth 100000 in
theorem unlike8_lifted (os : Os) (started : os.Started) (H : Type) (enc : TypeId × Value → H) :
    ReturnsInHanded {} Tryz.checked os 9 .any (fun w args => (Rows.richUnlikeSpec.pre enc Tryz.prog Tryz.f9 [] false w args ∧ laidMetH Tryz.prog Rows.richUnlikeRow.laid w) ∧ sizedMet enc Tryz.prog Tryz.f9 (OpenSpec.ofChange Rows.richUnlikeSpec) false w args)
      (Rows.richUnlikeSpec.post enc Tryz.prog Tryz.f9 false true false false) := by
  refine law_lift_all Rows.richUnlikeRow.laid os started _ Tryz.f9 Rows.richUnlikeSpec (by kernel_rfl) Tryz.func9 rfl ?_ rfl ?_
    (ChangeSpec.witness_shaped (enc := enc) (C := Tryz.checked) (os := os) (X := fun w _ => laidMetH Tryz.prog Rows.richUnlikeRow.laid w) false (World.laidAll Tryz.prog os Rows.richUnlikeRow.laid) #[.agg #[.int .u8 0, .string ⟨#[]⟩, .int .u8 0, .int .i64 0, .string ⟨#[]⟩, .string ⟨#[]⟩, .slice none 0 0], .agg #[.int .u8 0, .string ⟨#[]⟩, .int .u8 0, .int .i64 0, .string ⟨#[]⟩, .string ⟨#[]⟩, .slice none 0 0]] 8 (World.laidAll_os _ _ _)
      (World.shaped_of_ZipB (by kernel_rfl) (by kernel_rfl)) (by kernel_rfl) (by kernel_rfl) (by kernel_rfl)
      (by rw [MakeChecks.laidMetH_plain _ _ _ (by kernel_rfl)]; exact laidMet_laidAll _ (by kernel_rfl) (by kernel_rfl))) ?_
  · intro t ht
    rw [Tryz.params9] at ht
    have ht' : t = 28 := by simpa using ht
    subst ht'
    exact ⟨by kernel_rfl, of_decide_eq_true (by kernel_rfl)⟩
  · intro ds vs W p h
    rw [Tryz.params9] at h
    obtain ⟨v0, vs0, d0, ds0, p0, q0, HV, rfl, rfl, h0, r0⟩ := trodAll_cons h
    obtain ⟨v1, vs1, d1, ds1, p1, q1, rfl, rfl, rfl, h1, r1⟩ := trodAll_cons r0
    obtain ⟨rfl, rfl, rfl⟩ := trodAll_nil r1
    rfl
  · intro W base args ds p hlaid hval hA hz
    rw [Tryz.params9] at hA hval hz
    obtain ⟨v0, vs0, d0, ds0, p0, q0, HV, rfl, rfl, h0, r0⟩ := trodAll_cons hA
    obtain ⟨v1, vs1, d1, ds1, p1, q1, rfl, rfl, rfl, h1, r1⟩ := trodAll_cons r0
    obtain ⟨rfl, rfl, rfl⟩ := trodAll_nil r1
    obtain rfl : args = #[v0, v1] := by cases args; simp_all
    obtain ⟨x0, y0, f0⟩ := rich_open h0 hz (j := 0) rfl rfl (hval 0 _ _ rfl rfl)
    obtain ⟨x1, y1, f1⟩ := rich_open h1 hz (j := 1) rfl rfl (hval 1 _ _ rfl rfl)
    have rw : RichW W := ⟨libW_of6 hlaid (MakeChecks.laidMetH_plain _ _ _ (by kernel_rfl)) (by kernel_rfl) (by kernel_rfl) (by kernel_rfl), notW_of hlaid (by kernel_rfl) (MakeChecks.laidMetH_plain _ _ _ (by kernel_rfl)), rowsW_of hlaid (by kernel_rfl) (MakeChecks.laidMetH_plain _ _ _ (by kernel_rfl))⟩
    exact (richunlike_walk W (showK8_of rw) (awakeK_of (parseK_of rw) (showK8_of rw)) x0 x1 v0 v1 y0 y1 f0 f1).mono fun _ _ h => kept_below h

theorem unlike8_of : Rows.RichUnlikeSaid :=
  OpenClaim.holds_of_wide 9 Tryz.f9 rfl rfl rfl rfl rfl rfl rfl ⟨rfl, rfl, rfl, rfl, rfl⟩ rfl rfl rfl rfl rfl (by kernel_rfl) Tryz.func9 (by kernel_rfl)
    (of_decide_eq_true (by kernel_rfl)) (by unfold Func.isWrapper; first | (rw [if_pos (by decide +kernel)]; kernel_rfl) | (rw [if_neg (by decide +kernel)]; exact ⟨rfl, rfl⟩))
    (fun os started H enc _ => unlike8_lifted os started H enc)
theorem unlike8_card : Rows.RichUnlikeCardSaid :=
  Claim7.holds_tied_plain_at .later [] [.data, .data, .data, .sentinel, .sentinel, .data, .data] true (true, "2d0494ba1549ad45db0d1dbef69f8d5ac10b889cbd359c8d684afb1bb9839f44") true
    unlike8_of (fun _ h => by cases h) (by kernel_rfl) (fun _ h => by cases h) richUnlike_row_tie rfl ⟨rfl, rfl⟩ (by kernel_rfl) rfl
    (fun f fn hf hfn => by
      obtain rfl : f = 9 := Option.some.inj ((show Tryz.prog.funcNamed "chandlery/chandlerylaw08.RichUnlike" = some 9 by kernel_rfl).symm.trans hf) |>.symm
      obtain rfl : fn = Tryz.f9 := (Option.some.inj (Tryz.func9.symm.trans hfn)).symm
      exact ⟨by kernel_rfl, fun j t ht => by
        rw [Tryz.params9] at ht
        have hm : t ∈ [28] := by simpa using Array.mem_of_getElem? ht
        have hall : ([28].all fun u => !Tryz.prog.wantsStandIn u) = true := by kernel_rfl
        exact (show Tryz.prog.wantsStandIn t = false by simpa using List.all_eq_true.1 hall t hm)⟩)
    (by kernel_rfl)
end Go.Proofs.YtfijhanfcppmgaaGreatDoor
