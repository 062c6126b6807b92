/-
  The walk over the law VercmpRow. Conditions: as each theorem states.
-/
import Derived.Test.YtmnmnbpecdofnaaDoorMathLaws02
import Derived.Test.YtmnmnbpecdofnaaDoorAwake02
namespace Go.Proofs.YtmnmnbpecdofnaaDoor
open Go.RowKit Ver

theorem row_three (a b c : ByteArray) : ∃ x y z : Int, cmpB a b = x ∧ cmpB b c = y ∧ cmpB a c = z ∧ cmpB b a = -x ∧ cmpB a a = 0 ∧
    ((x = -1 ∧ y = -1 ∧ z = -1) ∨ (x = -1 ∧ y = 0 ∧ z = -1) ∨ (x = -1 ∧ y = 1 ∧ z = -1) ∨ (x = -1 ∧ y = 1 ∧ z = 0) ∨ (x = -1 ∧ y = 1 ∧ z = 1) ∨
     (x = 0 ∧ y = -1 ∧ z = -1) ∨ (x = 0 ∧ y = 0 ∧ z = 0) ∨ (x = 0 ∧ y = 1 ∧ z = 1) ∨
     (x = 1 ∧ y = 1 ∧ z = 1) ∨ (x = 1 ∧ y = 0 ∧ z = 1) ∨ (x = 1 ∧ y = -1 ∧ z = -1) ∨ (x = 1 ∧ y = -1 ∧ z = 0) ∨ (x = 1 ∧ y = -1 ∧ z = 1)) := by
  refine ⟨_, _, _, rfl, rfl, rfl, row_turn a b, cmp_order.self a, ?_⟩
  have h1 := cmp_order.lt_le a b c
  have h2 := cmp_order.le a b c
  have h3 := cmp_order.lt_le c b a
  have h4 := cmp_order.le c b a
  have h5 := cmp_order.eq_trans a b c
  have t1 := row_turn a b
  have t2 := row_turn b c
  have t3 := row_turn a c
  have h6 := cmp_order.lt_le b a c
  have h7 := cmp_order.lt_le b c a
  have h8 := cmp_order.lt_le a c b
  have h9 := cmp_order.lt_le c a b
  have r1 := row_range a b
  have r2 := row_range b c
  have r3 := row_range a c
  simp only [t1, t2, t3] at h1 h2 h3 h4 h5 h6 h7 h8 h9
  clear t1 t2 t3
  generalize cmpB a b = x at *
  generalize cmpB b c = y at *
  generalize cmpB a c = z at *
  rcases r1 with rfl | rfl | rfl <;> rcases r2 with rfl | rfl | rfl <;> rcases r3 with rfl | rfl | rfl <;> simp_all

set_option maxRecDepth 100000 in
set_option maxHeartbeats 2000000 in
theorem row_walk (hC : CompareK) (hS : SortK) (a b c : ByteArray) (w : World) (ha : a.size < 140737488355328) (hb : b.size < 140737488355328) (hc : c.size < 140737488355328) :
    Calls Tryd.prog 6 #[.string a, .string b, .string c] w fun e w' => e = .returned (.bool true) ∧ Kept (fun _ => False) w w' := by
  have n0 : IntKind.i64.wrap ((a.size : Int) + (b.size : Int)) = (a.size : Int) + (b.size : Int) := IntWalk.i64_in _ ⟨by omega, by omega⟩
  by_cases h1 : a.size + b.size ≤ 3000
  · have n1 : ¬ ((3000 : Int) < (a.size : Int) + (b.size : Int)) := by omega
    by_cases h2 : c.size ≤ 3000
    · have n2 : ¬ ((3000 : Int) < (c.size : Int)) := by omega
      obtain ⟨x, y, z, e1, e2, e3, e4, e5, e6⟩ := row_three a b c
      have C1 := cmp_lit hC a b _ (by omega) (by omega) e1
      have C2 := cmp_lit hC b c _ (by omega) (by omega) e2
      have C3 := cmp_lit hC a c _ (by omega) (by omega) e3
      have C4 := cmp_lit hC b a _ (by omega) (by omega) e4
      have C5 := cmp_lit hC a a _ (by omega) (by omega) e5
      clear e1 e2 e3 e4 e5 h1 h2 ha hb hc
      rcases e6 with ⟨rfl, rfl, rfl⟩ | ⟨rfl, rfl, rfl⟩ | ⟨rfl, rfl, rfl⟩ | ⟨rfl, rfl, rfl⟩ | ⟨rfl, rfl, rfl⟩ | ⟨rfl, rfl, rfl⟩ | ⟨rfl, rfl, rfl⟩ | ⟨rfl, rfl, rfl⟩ | ⟨rfl, rfl, rfl⟩ | ⟨rfl, rfl, rfl⟩ | ⟨rfl, rfl, rfl⟩ | ⟨rfl, rfl, rfl⟩ | ⟨rfl, rfl, rfl⟩
      all_goals
        go_enter Tryd.func6, Tryd.ntmps6
        go_wp2_with (first
          | (go_at_call 11; refine (awake_walk hC hS _).mono ?_; rintro e w1 ⟨rfl, hk⟩)
          | (go_at_call 14; (first | (with_reducible refine (C1 _).mono ?_) | (with_reducible refine (C2 _).mono ?_) | (with_reducible refine (C3 _).mono ?_) | (with_reducible refine (C4 _).mono ?_) | (with_reducible refine (C5 _).mono ?_)); rintro e w1 ⟨rfl, hk1⟩; have hk := hk.trans hk1 (fun _ _ h => h); clear hk1)
          | fail)
        go_ret
        exact ⟨rfl, hk⟩
    · have n2 : (3000 : Int) < (c.size : Int) := by omega
      go_enter Tryd.func6, Tryd.ntmps6
      go_wp2_with (first
        | (go_at_call 11; refine (awake_walk hC hS _).mono ?_; rintro e w1 ⟨rfl, hk⟩)
        | fail)
      go_ret
      exact ⟨rfl, hk⟩
  · have n1 : (3000 : Int) < (a.size : Int) + (b.size : Int) := by omega
    go_enter Tryd.func6, Tryd.ntmps6
    go_wp2_with (first
      | (go_at_call 11; refine (awake_walk hC hS _).mono ?_; rintro e w1 ⟨rfl, hk⟩)
      | fail)
    go_ret
    exact ⟨rfl, hk⟩
end Go.Proofs.YtmnmnbpecdofnaaDoor
