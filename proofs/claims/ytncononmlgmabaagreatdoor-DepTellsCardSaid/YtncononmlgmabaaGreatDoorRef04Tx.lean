/-
  The walks over the document's answers for layer 4: which Ops may be, an Op's text. Conditions: as each theorem states.
-/
import Derived.Test.YtncononmlgmabaaGreatDoorMathSpan
import Derived.Test.YtncononmlgmabaaGreatDoorMem
import Derived.Handy
import Derived.Lib.Hide
import Derived.LoopN
import Derived.Test.YtncononmlgmabaaGreatDoorRows
namespace Go.Proofs.YtncononmlgmabaaGreatDoor
open Go.RowKit Span Evr

/-- An Op is one of the six, or none of them. -/
theorem op_cases (o : Nat) : o = 0 ∨ o = 1 ∨ o = 2 ∨ o = 3 ∨ o = 4 ∨ o = 6 ∨ (((o : Int) == 0) = false ∧ ((o : Int) == 1) = false ∧ ((o : Int) == 2) = false ∧ ((o : Int) == 3) = false ∧ ((o : Int) == 4) = false ∧ ((o : Int) == 6) = false ∧ mayO o = false ∧ textO o = ⟨#[]⟩) := by
  by_cases h : o = 0 ∨ o = 1 ∨ o = 2 ∨ o = 3 ∨ o = 4 ∨ o = 6
  · omega
  · refine .inr (.inr (.inr (.inr (.inr (.inr ⟨?_, ?_, ?_, ?_, ?_, ?_, ?_, ?_⟩)))))
    all_goals first | (simp; omega; done) | (simp [mayO]; omega; done) | (unfold textO; split <;> first | omega | rfl)
set_option maxRecDepth 100000 in
set_option maxHeartbeats 1000000 in
theorem may4 (o : Nat) (ho : o < 256) (w : World) : Calls Tryz.prog 31 #[.int .u8 (o : Int)] w fun e w' => e = .returned (.bool (mayO o)) ∧ Kept (fun _ => False) w w' := by
  rcases op_cases o with rfl | rfl | rfl | rfl | rfl | rfl | ⟨g0, g1, g2, g3, g4, g6, hm, ht⟩
  all_goals go_enter Tryz.func31, Tryz.ntmps31
  all_goals go_wp2_with fail
  all_goals go_ret
  all_goals first | exact ⟨rfl, Kept.refl _ _⟩ | exact ⟨by rw [hm]; rfl, Kept.refl _ _⟩
set_option maxRecDepth 100000 in
set_option maxHeartbeats 1000000 in
theorem text4 (o : Nat) (ho : o < 256) (w : World) : Calls Tryz.prog 25 #[.int .u8 (o : Int)] w fun e w' => e = .returned (.string (textO o)) ∧ Kept (fun _ => False) w w' := by
  rcases op_cases o with rfl | rfl | rfl | rfl | rfl | rfl | ⟨g0, g1, g2, g3, g4, g6, hm, ht⟩
  all_goals go_enter Tryz.func25, Tryz.ntmps25
  all_goals go_wp2_with fail
  all_goals go_ret
  all_goals first | exact ⟨rfl, Kept.refl _ _⟩ | exact ⟨by rw [ht]; rfl, Kept.refl _ _⟩
end Go.Proofs.YtncononmlgmabaaGreatDoor
