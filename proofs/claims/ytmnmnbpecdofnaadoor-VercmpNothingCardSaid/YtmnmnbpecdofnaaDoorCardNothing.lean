/-
  The statement of layer 2 on 'nothing' (VercmpNothing), proved of the program at this commit: for every input the law's function answers true, and leaves its arguments as they were. Conditions: the given row's own.
-/
import Derived.Test.YtmnmnbpecdofnaaDoorNothing02
import Derived.Test.YtmnmnbpecdofnaaDoorOpen02
import Derived.Test.YtmnmnbpecdofnaaDoorLawRow2
import Derived.Test.YtmnmnbpecdofnaaDoorCards
import Derived.Test.YtmnmnbpecdofnaaDoorTie
import Derived.SevenTiedAt
import Derived.Test.YtmnmnbpecdofnaaDoorVer02e
import Derived.Test.YtmnmnbpecdofnaaDoorSort02c
namespace Go.Proofs.YtmnmnbpecdofnaaDoor
open Go.ChangeShapes Go.WideShapes Go.ChangeAt Go.RowKit

theorem kept_below {w w' : World} {P : Prop} (h : P ∧ Kept (fun _ => False) w w') : P ∧ Below w.heap.size w w' := ⟨h.1, h.2.below (Nat.le_refl _) (fun _ h => h.elim)⟩

set_option maxRecDepth 100000 in
theorem nothing_lifted (hP : PartsK) (hC : CompareK) (hS : SortK) (os : Os) (started : os.Started) (H : Type) (enc : TypeId × Value → H) :
    ReturnsInHanded {} Tryd.checked os 8 .any (fun w args => (Rows.vercmpNothingSpec.pre enc Tryd.prog Tryd.f8 [] false w args ∧ laidMetH Tryd.prog Rows.vercmpNothingRow.laid w) ∧ sizedMet enc Tryd.prog Tryd.f8 (OpenSpec.ofChange Rows.vercmpNothingSpec) false w args)
      (Rows.vercmpNothingSpec.post enc Tryd.prog Tryd.f8 false true false false) := by
  refine law_lift_laid Rows.vercmpNothingRow.laid os started _ Tryd.f8 Rows.vercmpNothingSpec (by kernel_rfl) Tryd.func8 rfl ?_ rfl ?_
    (ChangeSpec.witness_shaped (enc := enc) (C := Tryd.checked) (os := os) (X := fun w _ => laidMetH Tryd.prog Rows.vercmpNothingRow.laid w) false (World.laidAll Tryd.prog os Rows.vercmpNothingRow.laid) #[.string ⟨#[]⟩, .string ⟨#[]⟩, .int .i64 0, .int .u8 0] 8 (World.laidAll_os _ _ _)
      (World.shaped_of_ZipB (by kernel_rfl) (by kernel_rfl)) (by kernel_rfl) (by kernel_rfl) (by kernel_rfl)
      (by rw [MakeChecks.laidMetH_plain _ _ _ (by kernel_rfl)]; exact laidMet_laidAll _ (by kernel_rfl) (by kernel_rfl))) ?_
  · intro t ht
    rw [Tryd.params8] at ht
    have ht' : t = 9 ∨ t = 9 ∨ t = 3 ∨ t = 5 := by simpa using ht
    rcases ht' with rfl | rfl | rfl | rfl
    all_goals exact ⟨by kernel_rfl, of_decide_eq_true (by kernel_rfl)⟩
  · intro ds vs W p h
    rw [Tryd.params8] at h
    obtain ⟨v0, vs0, d0, ds0, p0, q0, HV, rfl, rfl, h0, r0⟩ := trodAll_cons h
    obtain ⟨v1, vs1, d1, ds1, p1, q1, rfl, rfl, rfl, h1, r1⟩ := trodAll_cons r0
    obtain ⟨v2, vs2, d2, ds2, p2, q2, rfl, rfl, rfl, h2, r2⟩ := trodAll_cons r1
    obtain ⟨v3, vs3, d3, ds3, p3, q3, rfl, rfl, rfl, h3, r3⟩ := trodAll_cons r2
    obtain ⟨rfl, rfl, rfl⟩ := trodAll_nil r3
    rfl
  · intro W base args ds p hval hA hz
    rw [Tryd.params8] at hA hval hz
    obtain ⟨v0, vs0, d0, ds0, p0, q0, HV, rfl, rfl, h0, r0⟩ := trodAll_cons hA
    obtain ⟨v1, vs1, d1, ds1, p1, q1, rfl, rfl, rfl, h1, r1⟩ := trodAll_cons r0
    obtain ⟨v2, vs2, d2, ds2, p2, q2, rfl, rfl, rfl, h2, r2⟩ := trodAll_cons r1
    obtain ⟨v3, vs3, d3, ds3, p3, q3, rfl, rfl, rfl, h3, r3⟩ := trodAll_cons r2
    obtain ⟨rfl, rfl, rfl⟩ := trodAll_nil r3
    obtain rfl : args = #[v0, v1, v2, v3] := by cases args; simp_all
    obtain ⟨s0, rfl, l0⟩ := str_open h0 hz (j := 0) rfl rfl (hval 0 _ _ rfl rfl)
    obtain ⟨s1, rfl, l1⟩ := str_open h1 hz (j := 1) rfl rfl (hval 1 _ _ rfl rfl)
    obtain ⟨z2, rfl, l2, m2⟩ := int_open h2 (hval 2 _ _ rfl rfl)
    obtain ⟨b3, rfl⟩ := byte_open h3 (hval 3 _ _ rfl rfl)
    exact (nothing_walk hP hC hS s0 s1 z2 b3 W l0 l1 l2 m2).mono fun _ _ h => kept_below h

theorem nothing_of (hP : PartsK) (hC : CompareK) (hS : SortK) : Rows.VercmpNothingSaid :=
  OpenClaim.holds_of_wide 8 Tryd.f8 rfl rfl rfl rfl rfl rfl rfl ⟨rfl, rfl, rfl, rfl, rfl⟩ rfl rfl rfl rfl rfl (by kernel_rfl) Tryd.func8 (by kernel_rfl)
    (of_decide_eq_true (by kernel_rfl)) (by unfold Func.isWrapper; first | (rw [if_pos (by decide +kernel)]; kernel_rfl) | (rw [if_neg (by decide +kernel)]; exact ⟨rfl, rfl⟩))
    (fun os started H enc _ => nothing_lifted hP hC hS os started H enc)
theorem nothing_card : Rows.VercmpNothingCardSaid :=
  Claim7.holds_tied_plain_at .later [] [.data, .pinned] true (true, "8c3a7a77ccb1d1e9df9de3415d952c57653514be1e15cf317f8de1b659ee2b3b") false
    (nothing_of parts_k compare_k (sort_k compare_k)) (fun _ h => by cases h) (by kernel_rfl) (fun _ h => by cases h) vercmpNothing_row_tie rfl ⟨rfl, rfl⟩ (by kernel_rfl) rfl
    (fun f fn hf hfn => by
      obtain rfl : f = 8 := Option.some.inj ((show Tryd.prog.funcNamed "chandlery/chandlerylaw02.VercmpNothing" = some 8 by kernel_rfl).symm.trans hf) |>.symm
      obtain rfl : fn = Tryd.f8 := (Option.some.inj (Tryd.func8.symm.trans hfn)).symm
      exact ⟨by kernel_rfl, fun j t ht => by
        rw [Tryd.params8] at ht
        have hm : t ∈ [9, 3, 5] := by simpa using Array.mem_of_getElem? ht
        have hall : ([9, 3, 5].all fun u => !Tryd.prog.wantsStandIn u) = true := by kernel_rfl
        exact (show Tryd.prog.wantsStandIn t = false by simpa using List.all_eq_true.1 hall t hm)⟩)
    (by kernel_rfl)
end Go.Proofs.YtmnmnbpecdofnaaDoor
