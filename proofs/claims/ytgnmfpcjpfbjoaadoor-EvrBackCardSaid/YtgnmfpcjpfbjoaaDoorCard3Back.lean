/-
  The statement of layer 3 on 'back' (EvrBack), proved of the program at this commit: for every input the law's function answers true, and leaves its arguments as they were. Conditions: the given row's own.
-/
import Derived.Test.YtgnmfpcjpfbjoaaDoorBack03b
import Derived.Test.YtgnmfpcjpfbjoaaDoorOpen03
import Derived.Test.YtgnmfpcjpfbjoaaDoorLaw3
import Derived.Test.YtgnmfpcjpfbjoaaDoorCards
import Derived.Test.YtgnmfpcjpfbjoaaDoorTie
import Derived.SevenTiedAt
import Derived.Test.YtgnmfpcjpfbjoaaDoorEvr3b
import Derived.Test.YtgnmfpcjpfbjoaaDoorEvr3e
namespace Go.Proofs.YtgnmfpcjpfbjoaaDoor
open Go.ChangeShapes Go.WideShapes Go.ChangeAt Go.RowKit

set_option maxRecDepth 100000 in
theorem back3_lifted (os : Os) (started : os.Started) (H : Type) (enc : TypeId × Value → H) :
    ReturnsInHanded {} Tryd.checked os 5 .any (fun w args => (Rows.evrBackSpec.pre enc Tryd.prog Tryd.f5 [] false w args ∧ laidMetH Tryd.prog Rows.evrBackRow.laid w) ∧ sizedMet enc Tryd.prog Tryd.f5 (OpenSpec.ofChange Rows.evrBackSpec) false w args)
      (Rows.evrBackSpec.post enc Tryd.prog Tryd.f5 false true false false) := by
  refine law_lift_lib Rows.evrBackRow.laid os started _ Tryd.f5 Rows.evrBackSpec (by kernel_rfl) Tryd.func5 rfl ?_ rfl ?_
    (ChangeSpec.witness_shaped (enc := enc) (C := Tryd.checked) (os := os) (X := fun w _ => laidMetH Tryd.prog Rows.evrBackRow.laid w) false (World.laidAll Tryd.prog os Rows.evrBackRow.laid) #[.agg #[.int .i64 0, .string ⟨#[]⟩, .string ⟨#[]⟩], .string ⟨#[]⟩] 8 (World.laidAll_os _ _ _)
      (World.shaped_of_ZipB (by kernel_rfl) (by kernel_rfl)) (by kernel_rfl) (by kernel_rfl) (by kernel_rfl)
      (by rw [MakeChecks.laidMetH_plain _ _ _ (by kernel_rfl)]; exact laidMet_laidAll _ (by kernel_rfl) (by kernel_rfl))) ?_
  · intro t ht
    rw [Tryd.params5] at ht
    have ht' : t = 30 ∨ t = 9 := by simpa using ht
    rcases ht' with rfl | rfl
    all_goals exact ⟨by kernel_rfl, of_decide_eq_true (by kernel_rfl)⟩
  · intro ds vs W p h
    rw [Tryd.params5] at h
    obtain ⟨v0, vs0, d0, ds0, p0, q0, HV, rfl, rfl, h0, r0⟩ := trodAll_cons h
    obtain ⟨v1, vs1, d1, ds1, p1, q1, rfl, rfl, rfl, h1, r1⟩ := trodAll_cons r0
    obtain ⟨rfl, rfl, rfl⟩ := trodAll_nil r1
    rfl
  · intro W base args ds p hlaid hval hA
    have hL : LibW W := libW_of hlaid
    rw [Tryd.params5] at hA hval
    obtain ⟨v0, vs0, d0, ds0, p0, q0, HV, rfl, rfl, h0, r0⟩ := trodAll_cons hA
    obtain ⟨v1, vs1, d1, ds1, p1, q1, rfl, rfl, rfl, h1, r1⟩ := trodAll_cons r0
    obtain ⟨rfl, rfl, rfl⟩ := trodAll_nil r1
    obtain rfl : args = #[v0, v1] := by cases args; simp_all
    obtain ⟨n0, x0, y0, rfl⟩ := evr_open h0 (hval 0 _ _ rfl rfl)
    obtain ⟨s1, rfl⟩ := okWide_string Tryd.underlying9 (hval 1 _ _ rfl rfl)
    exact (back3_walk W (fun n v r dep w _ _ => mayK_walk n v r dep w) (showK_walk hL) (parseK_walk hL) compareK_walk n0 x0 y0 s1).mono fun _ _ h => kept_below h

theorem back3_of : Rows.EvrBackSaid :=
  OpenClaim.holds_of_wide 5 Tryd.f5 rfl rfl rfl rfl rfl rfl rfl ⟨rfl, rfl, rfl, rfl, rfl⟩ rfl rfl rfl rfl rfl (by kernel_rfl) Tryd.func5 (by kernel_rfl)
    (of_decide_eq_true (by kernel_rfl)) (by unfold Func.isWrapper; first | (rw [if_pos (by decide +kernel)]; kernel_rfl) | (rw [if_neg (by decide +kernel)]; exact ⟨rfl, rfl⟩))
    (fun os started H enc _ => back3_lifted os started H enc)
theorem back3_card : Rows.EvrBackCardSaid :=
  Claim7.holds_tied_plain_at .later [] [.data, .data, .data, .data, .sentinel, .sentinel, .pinned] true (true, "a5aa42f38644f3b542941f967df46a5225c5b372c6a7ace86ca27bcdebece67c") true
    back3_of (fun _ h => by cases h) (by kernel_rfl) (fun _ h => by cases h) evrBack_row_tie rfl ⟨rfl, rfl⟩ (by kernel_rfl) rfl
    (fun f fn hf hfn => by
      obtain rfl : f = 5 := Option.some.inj ((show Tryd.prog.funcNamed "chandlery/chandlerylaw03.EvrBack" = some 5 by kernel_rfl).symm.trans hf) |>.symm
      obtain rfl : fn = Tryd.f5 := (Option.some.inj (Tryd.func5.symm.trans hfn)).symm
      exact ⟨by kernel_rfl, fun j t ht => by
        rw [Tryd.params5] at ht
        have hm : t ∈ [30, 9] := by simpa using Array.mem_of_getElem? ht
        have hall : ([30, 9].all fun u => !Tryd.prog.wantsStandIn u) = true := by kernel_rfl
        exact (show Tryd.prog.wantsStandIn t = false by simpa using List.all_eq_true.1 hall t hm)⟩)
    (by kernel_rfl)
end Go.Proofs.YtgnmfpcjpfbjoaaDoor
