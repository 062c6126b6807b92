/-
  The statement of layer 2 on 'sorts' (VercmpSorts), proved of the program at this commit: for every input the law's function answers true, and leaves its arguments as they were. Conditions: the given row's own.
-/
import Derived.Test.YtmnmnbpecdofnaaDoorSorts02
import Derived.Test.YtmnmnbpecdofnaaDoorOpen02
import Derived.Test.YtmnmnbpecdofnaaDoorLawRow2
import Derived.Test.YtmnmnbpecdofnaaDoorCards
import Derived.Test.YtmnmnbpecdofnaaDoorTie
import Derived.SevenTiedAt
import Derived.Test.YtmnmnbpecdofnaaDoorVer02e
import Derived.Test.YtmnmnbpecdofnaaDoorSort02c
namespace Go.Proofs.YtmnmnbpecdofnaaDoor
open Go.ChangeShapes Go.WideShapes Go.ChangeAt Go.RowKit

theorem kept_below {w w' : World} {P : Prop} (h : P ∧ Kept (fun _ => False) w w') : P ∧ Below w.heap.size w w' := ⟨h.1, h.2.below (Nat.le_refl _) (fun _ h => h.elim)⟩

set_option maxRecDepth 100000 in
theorem sorts_lifted (hC : CompareK) (hS : SortK) (os : Os) (started : os.Started) (H : Type) (enc : TypeId × Value → H) :
    ReturnsInHanded {} Tryd.checked os 4 .any (fun w args => (Rows.vercmpSortsSpec.pre enc Tryd.prog Tryd.f4 [] false w args ∧ laidMetH Tryd.prog Rows.vercmpSortsRow.laid w) ∧ sizedMet enc Tryd.prog Tryd.f4 (OpenSpec.ofChange Rows.vercmpSortsSpec) false w args)
      (Rows.vercmpSortsSpec.post enc Tryd.prog Tryd.f4 false true false false) := by
  refine law_lift_laid Rows.vercmpSortsRow.laid os started _ Tryd.f4 Rows.vercmpSortsSpec (by kernel_rfl) Tryd.func4 rfl ?_ rfl ?_
    (ChangeSpec.witness_shaped (enc := enc) (C := Tryd.checked) (os := os) (X := fun w _ => laidMetH Tryd.prog Rows.vercmpSortsRow.laid w) false (World.laidAll Tryd.prog os Rows.vercmpSortsRow.laid) #[.slice none 0 0] 8 (World.laidAll_os _ _ _)
      (World.shaped_of_ZipB (by kernel_rfl) (by kernel_rfl)) (by kernel_rfl) (by kernel_rfl) (by kernel_rfl)
      (by rw [MakeChecks.laidMetH_plain _ _ _ (by kernel_rfl)]; exact laidMet_laidAll _ (by kernel_rfl) (by kernel_rfl))) ?_
  · intro t ht
    rw [Tryd.params4] at ht
    have ht' : t = 32 := by simpa using ht
    subst ht'
    exact ⟨by kernel_rfl, of_decide_eq_true (by kernel_rfl)⟩
  · intro ds vs W p h
    rw [Tryd.params4] at h
    obtain ⟨v0, vs0, d0, ds0, p0, q0, HV, rfl, rfl, h0, r0⟩ := trodAll_cons h
    obtain ⟨rfl, rfl, rfl⟩ := trodAll_nil r0
    rfl
  · intro W base args ds p hval hA hz
    rw [Tryd.params4] at hA hval hz
    obtain ⟨v0, vs0, d0, ds0, p0, q0, HV, rfl, rfl, h0, r0⟩ := trodAll_cons hA
    obtain ⟨rfl, rfl, rfl⟩ := trodAll_nil r0
    obtain rfl : args = #[v0] := by cases args; simp_all
    obtain ⟨a0, c0, xs0, rfl, l0, n0, g0⟩ := strs_open h0 hz (j := 0) rfl rfl (hval 0 _ _ rfl rfl)
    exact (sorts_walk hC hS a0 c0 xs0 W l0 n0 g0).mono fun _ _ h => kept_below h

theorem sorts_of (hC : CompareK) (hS : SortK) : Rows.VercmpSortsSaid :=
  OpenClaim.holds_of_wide 4 Tryd.f4 rfl rfl rfl rfl rfl rfl rfl ⟨rfl, rfl, rfl, rfl, rfl⟩ rfl rfl rfl rfl rfl (by kernel_rfl) Tryd.func4 (by kernel_rfl)
    (of_decide_eq_true (by kernel_rfl)) (by unfold Func.isWrapper; first | (rw [if_pos (by decide +kernel)]; kernel_rfl) | (rw [if_neg (by decide +kernel)]; exact ⟨rfl, rfl⟩))
    (fun os started H enc _ => sorts_lifted hC hS os started H enc)
theorem sorts_card : Rows.VercmpSortsCardSaid :=
  Claim7.holds_tied_plain_at .later [] [.data, .pinned] true (true, "8c3a7a77ccb1d1e9df9de3415d952c57653514be1e15cf317f8de1b659ee2b3b") false
    (sorts_of compare_k (sort_k compare_k)) (fun _ h => by cases h) (by kernel_rfl) (fun _ h => by cases h) vercmpSorts_row_tie rfl ⟨rfl, rfl⟩ (by kernel_rfl) rfl
    (fun f fn hf hfn => by
      obtain rfl : f = 4 := Option.some.inj ((show Tryd.prog.funcNamed "chandlery/chandlerylaw02.VercmpSorts" = some 4 by kernel_rfl).symm.trans hf) |>.symm
      obtain rfl : fn = Tryd.f4 := (Option.some.inj (Tryd.func4.symm.trans hfn)).symm
      exact ⟨by kernel_rfl, fun j t ht => by
        rw [Tryd.params4] at ht
        have hm : t ∈ [32] := by simpa using Array.mem_of_getElem? ht
        have hall : ([32].all fun u => !Tryd.prog.wantsStandIn u) = true := by kernel_rfl
        exact (show Tryd.prog.wantsStandIn t = false by simpa using List.all_eq_true.1 hall t hm)⟩)
    (by kernel_rfl)
end Go.Proofs.YtmnmnbpecdofnaaDoor
