/-
  The statement of layer 2 on 'ahead' (VercmpAhead), proved of the program at this commit: for every input the law's function answers true, and leaves its arguments as they were. Conditions: the given row's own.
-/
import Derived.Test.YtmnmnbpecdofnaaDoorAhead02
import Derived.Test.YtmnmnbpecdofnaaDoorOpen02
import Derived.Test.YtmnmnbpecdofnaaDoorLawRow2
import Derived.Test.YtmnmnbpecdofnaaDoorCards
import Derived.Test.YtmnmnbpecdofnaaDoorTie
import Derived.SevenTiedAt
import Derived.Test.YtmnmnbpecdofnaaDoorVer02e
import Derived.Test.YtmnmnbpecdofnaaDoorSort02c
namespace Go.Proofs.YtmnmnbpecdofnaaDoor
open Go.ChangeShapes Go.WideShapes Go.ChangeAt Go.RowKit

theorem kept_below {w w' : World} {P : Prop} (h : P ∧ Kept (fun _ => False) w w') : P ∧ Below w.heap.size w w' := ⟨h.1, h.2.below (Nat.le_refl _) (fun _ h => h.elim)⟩

set_option maxRecDepth 100000 in
theorem ahead_lifted (hC : CompareK) (hS : SortK) (os : Os) (started : os.Started) (H : Type) (enc : TypeId × Value → H) :
    ReturnsInHanded {} Tryd.checked os 9 .any (fun w args => (Rows.vercmpAheadSpec.pre enc Tryd.prog Tryd.f9 [] false w args ∧ laidMetH Tryd.prog Rows.vercmpAheadRow.laid w) ∧ sizedMet enc Tryd.prog Tryd.f9 (OpenSpec.ofChange Rows.vercmpAheadSpec) false w args)
      (Rows.vercmpAheadSpec.post enc Tryd.prog Tryd.f9 false true false false) := by
  refine law_lift_laid Rows.vercmpAheadRow.laid os started _ Tryd.f9 Rows.vercmpAheadSpec (by kernel_rfl) Tryd.func9 rfl ?_ rfl ?_
    (ChangeSpec.witness_shaped (enc := enc) (C := Tryd.checked) (os := os) (X := fun w _ => laidMetH Tryd.prog Rows.vercmpAheadRow.laid w) false (World.laidAll Tryd.prog os Rows.vercmpAheadRow.laid) #[.string ⟨#[]⟩, .string ⟨#[]⟩, .string ⟨#[]⟩] 8 (World.laidAll_os _ _ _)
      (World.shaped_of_ZipB (by kernel_rfl) (by kernel_rfl)) (by kernel_rfl) (by kernel_rfl) (by kernel_rfl)
      (by rw [MakeChecks.laidMetH_plain _ _ _ (by kernel_rfl)]; exact laidMet_laidAll _ (by kernel_rfl) (by kernel_rfl))) ?_
  · intro t ht
    rw [Tryd.params9] at ht
    have ht' : t = 9 ∨ t = 9 ∨ t = 9 := by simpa using ht
    rcases ht' with rfl | rfl | rfl
    all_goals exact ⟨by kernel_rfl, of_decide_eq_true (by kernel_rfl)⟩
  · intro ds vs W p h
    rw [Tryd.params9] at h
    obtain ⟨v0, vs0, d0, ds0, p0, q0, HV, rfl, rfl, h0, r0⟩ := trodAll_cons h
    obtain ⟨v1, vs1, d1, ds1, p1, q1, rfl, rfl, rfl, h1, r1⟩ := trodAll_cons r0
    obtain ⟨v2, vs2, d2, ds2, p2, q2, rfl, rfl, rfl, h2, r2⟩ := trodAll_cons r1
    obtain ⟨rfl, rfl, rfl⟩ := trodAll_nil r2
    rfl
  · intro W base args ds p hval hA hz
    rw [Tryd.params9] at hA hval hz
    obtain ⟨v0, vs0, d0, ds0, p0, q0, HV, rfl, rfl, h0, r0⟩ := trodAll_cons hA
    obtain ⟨v1, vs1, d1, ds1, p1, q1, rfl, rfl, rfl, h1, r1⟩ := trodAll_cons r0
    obtain ⟨v2, vs2, d2, ds2, p2, q2, rfl, rfl, rfl, h2, r2⟩ := trodAll_cons r1
    obtain ⟨rfl, rfl, rfl⟩ := trodAll_nil r2
    obtain rfl : args = #[v0, v1, v2] := by cases args; simp_all
    obtain ⟨s0, rfl, l0⟩ := str_open h0 hz (j := 0) rfl rfl (hval 0 _ _ rfl rfl)
    obtain ⟨s1, rfl, l1⟩ := str_open h1 hz (j := 1) rfl rfl (hval 1 _ _ rfl rfl)
    obtain ⟨s2, rfl, l2⟩ := str_open h2 hz (j := 2) rfl rfl (hval 2 _ _ rfl rfl)
    exact (ahead_walk hC hS s0 s1 s2 W l0 l1 l2).mono fun _ _ h => kept_below h

theorem ahead_of (hC : CompareK) (hS : SortK) : Rows.VercmpAheadSaid :=
  OpenClaim.holds_of_wide 9 Tryd.f9 rfl rfl rfl rfl rfl rfl rfl ⟨rfl, rfl, rfl, rfl, rfl⟩ rfl rfl rfl rfl rfl (by kernel_rfl) Tryd.func9 (by kernel_rfl)
    (of_decide_eq_true (by kernel_rfl)) (by unfold Func.isWrapper; first | (rw [if_pos (by decide +kernel)]; kernel_rfl) | (rw [if_neg (by decide +kernel)]; exact ⟨rfl, rfl⟩))
    (fun os started H enc _ => ahead_lifted hC hS os started H enc)
theorem ahead_card : Rows.VercmpAheadCardSaid :=
  Claim7.holds_tied_plain_at .later [] [.data, .pinned] true (true, "8c3a7a77ccb1d1e9df9de3415d952c57653514be1e15cf317f8de1b659ee2b3b") false
    (ahead_of compare_k (sort_k compare_k)) (fun _ h => by cases h) (by kernel_rfl) (fun _ h => by cases h) vercmpAhead_row_tie rfl ⟨rfl, rfl⟩ (by kernel_rfl) rfl
    (fun f fn hf hfn => by
      obtain rfl : f = 9 := Option.some.inj ((show Tryd.prog.funcNamed "chandlery/chandlerylaw02.VercmpAhead" = some 9 by kernel_rfl).symm.trans hf) |>.symm
      obtain rfl : fn = Tryd.f9 := (Option.some.inj (Tryd.func9.symm.trans hfn)).symm
      exact ⟨by kernel_rfl, fun j t ht => by
        rw [Tryd.params9] at ht
        have hm : t ∈ [9] := by simpa using Array.mem_of_getElem? ht
        have hall : ([9].all fun u => !Tryd.prog.wantsStandIn u) = true := by kernel_rfl
        exact (show Tryd.prog.wantsStandIn t = false by simpa using List.all_eq_true.1 hall t hm)⟩)
    (by kernel_rfl)
end Go.Proofs.YtmnmnbpecdofnaaDoor
