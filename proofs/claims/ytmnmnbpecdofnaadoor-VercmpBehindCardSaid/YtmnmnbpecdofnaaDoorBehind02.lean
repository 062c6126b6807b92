/-
  The walk over the law VercmpBehind. Conditions: as each theorem states.
-/
import Derived.Test.YtmnmnbpecdofnaaDoorMathLaws02
import Derived.Test.YtmnmnbpecdofnaaDoorAwake02
namespace Go.Proofs.YtmnmnbpecdofnaaDoor
open Go.RowKit Ver


set_option maxRecDepth 100000 in
set_option maxHeartbeats 1000000 in
theorem behind_walk (hC : CompareK) (hS : SortK) (a b : ByteArray) (w : World) (ha : a.size < 140737488355328) (hb : b.size < 140737488355328) :
    Calls Tryd.prog 7 #[.string a, .string b] w fun e w' => e = .returned (.bool true) ∧ Kept (fun _ => False) w w' := by
  have n0 : IntKind.i64.wrap ((a.size : Int) + (b.size : Int)) = (a.size : Int) + (b.size : Int) := IntWalk.i64_in _ ⟨by omega, by omega⟩
  by_cases h1 : a.size + b.size ≤ 3000
  · have n1 : ¬ ((3000 : Int) < (a.size : Int) + (b.size : Int)) := by omega
    have C1 := cmp_lit hC (a ++ ⟨#[46, 126]⟩ ++ b) a _ (by simp only [app_size]; show a.size + 2 + b.size ≤ _; omega) (by omega) (behind1 a b)
    have C2 := cmp_lit hC a (a ++ ⟨#[46, 94]⟩ ++ b) _ (by omega) (by simp only [app_size]; show a.size + 2 + b.size ≤ _; omega) (behind2 a b)
    have C3 := cmp_lit hC (a ++ ⟨#[46, 94]⟩ ++ b) (a ++ ⟨#[46, 122]⟩) _ (by simp only [app_size]; show a.size + 2 + b.size ≤ _; omega) (by simp only [app_size]; show a.size + 2 ≤ _; omega) (behind3 a b)
    have C4 := cmp_lit hC (a ++ ⟨#[46, 122, 122, 122]⟩) (a ++ ⟨#[46, 48]⟩) _ (by simp only [app_size]; show a.size + 4 ≤ _; omega) (by simp only [app_size]; show a.size + 2 ≤ _; omega) (behind4 a)
    have C5 := cmp_lit hC (a ++ ⟨#[126]⟩ ++ b) a _ (by simp only [app_size]; show a.size + 1 + b.size ≤ _; omega) (by omega) (behind5 a b)
    have C6 := cmp_lit hC (a ++ ⟨#[94]⟩ ++ b) a _ (by simp only [app_size]; show a.size + 1 + b.size ≤ _; omega) (by omega) (behind6 a b)
    go_enter Tryd.func7, Tryd.ntmps7
    go_wp2_with (first
      | (go_at_call 11; refine (awake_walk hC hS _).mono ?_; rintro e w1 ⟨rfl, hk⟩)
      | (go_at_call 14; (first | (with_reducible refine (C1 _).mono ?_) | (with_reducible refine (C2 _).mono ?_) | (with_reducible refine (C3 _).mono ?_) | (with_reducible refine (C4 _).mono ?_) | (with_reducible refine (C5 _).mono ?_) | (with_reducible refine (C6 _).mono ?_)); rintro e w1 ⟨rfl, hk1⟩; have hk := hk.trans hk1 (fun _ _ h => h); clear hk1)
      | fail)
    go_ret
    exact ⟨rfl, hk⟩
  · have n1 : (3000 : Int) < (a.size : Int) + (b.size : Int) := by omega
    go_enter Tryd.func7, Tryd.ntmps7
    go_wp2_with (first
      | (go_at_call 11; refine (awake_walk hC hS _).mono ?_; rintro e w1 ⟨rfl, hk⟩)
      | fail)
    go_ret
    exact ⟨rfl, hk⟩
end Go.Proofs.YtmnmnbpecdofnaaDoor
