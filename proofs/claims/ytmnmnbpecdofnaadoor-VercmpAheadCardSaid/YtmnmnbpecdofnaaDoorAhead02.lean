/-
  The walk over the law VercmpAhead. Conditions: as each theorem states.
-/
import Derived.Test.YtmnmnbpecdofnaaDoorMathLaws02
import Derived.Test.YtmnmnbpecdofnaaDoorAwake02
namespace Go.Proofs.YtmnmnbpecdofnaaDoor
open Go.RowKit Ver


set_option maxRecDepth 100000 in
set_option maxHeartbeats 1000000 in
theorem ahead_walk (hC : CompareK) (hS : SortK) (p a b : ByteArray) (w : World) (hp : p.size < 140737488355328) (ha : a.size < 140737488355328) (hb : b.size < 140737488355328) :
    Calls Tryd.prog 9 #[.string p, .string a, .string b] w fun e w' => e = .returned (.bool true) ∧ Kept (fun _ => False) w w' := by
  have n0 : IntKind.i64.wrap ((a.size : Int) + (b.size : Int)) = (a.size : Int) + (b.size : Int) := IntWalk.i64_in _ ⟨by omega, by omega⟩
  by_cases h1 : a.size + b.size ≤ 3000
  · have n1 : ¬ ((3000 : Int) < (a.size : Int) + (b.size : Int)) := by omega
    by_cases h2 : p.size ≤ 3000
    · have n2 : ¬ ((3000 : Int) < (p.size : Int)) := by omega
      have C1 := fun w => hC (p ++ ⟨#[46]⟩ ++ a) (p ++ ⟨#[46]⟩ ++ b) w (by simp only [app_size]; show p.size + 1 + a.size ≤ _; omega) (by simp only [app_size]; show p.size + 1 + b.size ≤ _; omega)
      simp only [ahead_eq] at C1
      have C2 := fun w => hC a b w (by omega) (by omega)
      go_enter Tryd.func9, Tryd.ntmps9
      go_wp2_with (first
        | (go_at_call 11; refine (awake_walk hC hS _).mono ?_; rintro e w1 ⟨rfl, hk⟩)
        | (go_at_call 14; (first | (with_reducible refine (C1 _).mono ?_) | (with_reducible refine (C2 _).mono ?_)); rintro e w1 ⟨rfl, hk1⟩; have hk := hk.trans hk1 (fun _ _ h => h); clear hk1)
        | fail)
      go_ret
      exact ⟨by simp, hk⟩
    · have n2 : (3000 : Int) < (p.size : Int) := by omega
      go_enter Tryd.func9, Tryd.ntmps9
      go_wp2_with (first
        | (go_at_call 11; refine (awake_walk hC hS _).mono ?_; rintro e w1 ⟨rfl, hk⟩)
        | fail)
      go_ret
      exact ⟨rfl, hk⟩
  · have n1 : (3000 : Int) < (a.size : Int) + (b.size : Int) := by omega
    go_enter Tryd.func9, Tryd.ntmps9
    go_wp2_with (first
      | (go_at_call 11; refine (awake_walk hC hS _).mono ?_; rintro e w1 ⟨rfl, hk⟩)
      | fail)
    go_ret
    exact ⟨rfl, hk⟩
end Go.Proofs.YtmnmnbpecdofnaaDoor
