/-
  The walks over the document's answers for layer 4: which Ops may be, an Op's text, the Op of a text. Conditions: as each theorem states.
-/
import Derived.Test.YtncononmlgmabaaDoorMathSpan
import Derived.Test.YtncononmlgmabaaDoorMem
import Derived.Handy
import Derived.Lib.Hide
import Derived.LoopN
import Derived.Test.YtncononmlgmabaaDoorRows
namespace Go.Proofs.YtncononmlgmabaaDoor
open Go.RowKit Span Evr

/-- An Op is one of the six, or none of them. -/
theorem op_cases (o : Nat) : o = 0 ∨ o = 1 ∨ o = 2 ∨ o = 3 ∨ o = 4 ∨ o = 6 ∨ (((o : Int) == 0) = false ∧ ((o : Int) == 1) = false ∧ ((o : Int) == 2) = false ∧ ((o : Int) == 3) = false ∧ ((o : Int) == 4) = false ∧ ((o : Int) == 6) = false ∧ mayO o = false ∧ textO o = ⟨#[]⟩) := by
  by_cases h : o = 0 ∨ o = 1 ∨ o = 2 ∨ o = 3 ∨ o = 4 ∨ o = 6
  · omega
  · refine .inr (.inr (.inr (.inr (.inr (.inr ⟨?_, ?_, ?_, ?_, ?_, ?_, ?_, ?_⟩)))))
    all_goals first | (simp; omega; done) | (simp [mayO]; omega; done) | (unfold textO; split <;> first | omega | rfl)
set_option maxRecDepth 100000 in
set_option maxHeartbeats 1000000 in
theorem may4 (o : Nat) (ho : o < 256) (w : World) : Calls Tryd.prog 42 #[.int .u8 (o : Int)] w fun e w' => e = .returned (.bool (mayO o)) ∧ Kept (fun _ => False) w w' := by
  rcases op_cases o with rfl | rfl | rfl | rfl | rfl | rfl | ⟨g0, g1, g2, g3, g4, g6, hm, ht⟩
  all_goals go_enter Tryd.func42, Tryd.ntmps42
  all_goals go_wp2_with fail
  all_goals go_ret
  all_goals first | exact ⟨rfl, Kept.refl _ _⟩ | exact ⟨by rw [hm]; rfl, Kept.refl _ _⟩
set_option maxRecDepth 100000 in
set_option maxHeartbeats 1000000 in
theorem text4 (o : Nat) (ho : o < 256) (w : World) : Calls Tryd.prog 43 #[.int .u8 (o : Int)] w fun e w' => e = .returned (.string (textO o)) ∧ Kept (fun _ => False) w w' := by
  rcases op_cases o with rfl | rfl | rfl | rfl | rfl | rfl | ⟨g0, g1, g2, g3, g4, g6, hm, ht⟩
  all_goals go_enter Tryd.func43, Tryd.ntmps43
  all_goals go_wp2_with fail
  all_goals go_ret
  all_goals first | exact ⟨rfl, Kept.refl _ _⟩ | exact ⟨by rw [ht]; rfl, Kept.refl _ _⟩
section
set_option maxRecDepth 100000 in
set_option maxHeartbeats 1000000 in
theorem parse4 (s : ByteArray) (w : World) : Calls Tryd.prog 27 #[.string s] w fun e w' => e = .returned (.tuple #[.int .u8 ((parseL s.data.toList).1 : Int), .bool (parseL s.data.toList).2]) ∧ Kept (fun _ => False) w w' := by
  have M0 : ∀ W, Calls Tryd.prog 42 #[.int .u8 0] W fun e w' => e = .returned (.bool true) ∧ Kept (fun _ => False) W w' := fun W => may4 0 (by decide) W
  have M1 : ∀ W, Calls Tryd.prog 42 #[.int .u8 1] W fun e w' => e = .returned (.bool true) ∧ Kept (fun _ => False) W w' := fun W => may4 1 (by decide) W
  have M2 : ∀ W, Calls Tryd.prog 42 #[.int .u8 2] W fun e w' => e = .returned (.bool true) ∧ Kept (fun _ => False) W w' := fun W => may4 2 (by decide) W
  have M3 : ∀ W, Calls Tryd.prog 42 #[.int .u8 3] W fun e w' => e = .returned (.bool true) ∧ Kept (fun _ => False) W w' := fun W => may4 3 (by decide) W
  have M4 : ∀ W, Calls Tryd.prog 42 #[.int .u8 4] W fun e w' => e = .returned (.bool true) ∧ Kept (fun _ => False) W w' := fun W => may4 4 (by decide) W
  have M5 : ∀ W, Calls Tryd.prog 42 #[.int .u8 5] W fun e w' => e = .returned (.bool false) ∧ Kept (fun _ => False) W w' := fun W => may4 5 (by decide) W
  have M6 : ∀ W, Calls Tryd.prog 42 #[.int .u8 6] W fun e w' => e = .returned (.bool true) ∧ Kept (fun _ => False) W w' := fun W => may4 6 (by decide) W
  have T0 : ∀ W, Calls Tryd.prog 43 #[.int .u8 0] W fun e w' => e = .returned (.string ⟨#[]⟩) ∧ Kept (fun _ => False) W w' := fun W => text4 0 (by decide) W
  have T1 : ∀ W, Calls Tryd.prog 43 #[.int .u8 1] W fun e w' => e = .returned (.string ⟨#[60]⟩) ∧ Kept (fun _ => False) W w' := fun W => text4 1 (by decide) W
  have T2 : ∀ W, Calls Tryd.prog 43 #[.int .u8 2] W fun e w' => e = .returned (.string ⟨#[61]⟩) ∧ Kept (fun _ => False) W w' := fun W => text4 2 (by decide) W
  have T3 : ∀ W, Calls Tryd.prog 43 #[.int .u8 3] W fun e w' => e = .returned (.string ⟨#[60, 61]⟩) ∧ Kept (fun _ => False) W w' := fun W => text4 3 (by decide) W
  have T4 : ∀ W, Calls Tryd.prog 43 #[.int .u8 4] W fun e w' => e = .returned (.string ⟨#[62]⟩) ∧ Kept (fun _ => False) W w' := fun W => text4 4 (by decide) W
  have T6 : ∀ W, Calls Tryd.prog 43 #[.int .u8 6] W fun e w' => e = .returned (.string ⟨#[62, 61]⟩) ∧ Kept (fun _ => False) W w' := fun W => text4 6 (by decide) W
  have HK := Lib.hid (Kept.refl (fun _ => False) w)
  obtain ⟨⟨l⟩⟩ := s
  change Calls Tryd.prog _ _ w fun e w' => e = .returned (.tuple #[.int .u8 ((parseL l).1 : Int), .bool (parseL l).2]) ∧ Kept (fun _ => False) w w'
  by_cases e0 : l = []
  · subst e0
    go_enter Tryd.func27, Tryd.ntmps27
    go_wp2_with fail
    refine wp_loop_rounds 1 ?_
    rw [rounds_succ]
    go_wp2_with (first
      | (go_at_call 42; (first | with_reducible refine (M0 _).mono ?_ | with_reducible refine (M1 _).mono ?_ | with_reducible refine (M2 _).mono ?_ | with_reducible refine (M3 _).mono ?_ | with_reducible refine (M4 _).mono ?_ | with_reducible refine (M5 _).mono ?_ | with_reducible refine (M6 _).mono ?_); rintro e w5 ⟨rfl, hk5⟩; have HK := Lib.hid (Kept.trans HK.out hk5 (fun _ _ h => h)); clear hk5)
      | (go_at_call 43; (first | with_reducible refine (T0 _).mono ?_ | with_reducible refine (T1 _).mono ?_ | with_reducible refine (T2 _).mono ?_ | with_reducible refine (T3 _).mono ?_ | with_reducible refine (T4 _).mono ?_ | with_reducible refine (T6 _).mono ?_); rintro e w5 ⟨rfl, hk5⟩; have HK := Lib.hid (Kept.trans HK.out hk5 (fun _ _ h => h)); clear hk5)
      | fail)
    go_ret2
    exact ⟨rfl, HK.out⟩
  by_cases e1 : l = [60]
  · subst e1
    go_enter Tryd.func27, Tryd.ntmps27
    go_wp2_with fail
    refine wp_loop_rounds 2 ?_
    rw [rounds_succ]
    go_wp2_with (first
      | (go_at_call 42; (first | with_reducible refine (M0 _).mono ?_ | with_reducible refine (M1 _).mono ?_ | with_reducible refine (M2 _).mono ?_ | with_reducible refine (M3 _).mono ?_ | with_reducible refine (M4 _).mono ?_ | with_reducible refine (M5 _).mono ?_ | with_reducible refine (M6 _).mono ?_); rintro e w5 ⟨rfl, hk5⟩; have HK := Lib.hid (Kept.trans HK.out hk5 (fun _ _ h => h)); clear hk5)
      | (go_at_call 43; (first | with_reducible refine (T0 _).mono ?_ | with_reducible refine (T1 _).mono ?_ | with_reducible refine (T2 _).mono ?_ | with_reducible refine (T3 _).mono ?_ | with_reducible refine (T4 _).mono ?_ | with_reducible refine (T6 _).mono ?_); rintro e w5 ⟨rfl, hk5⟩; have HK := Lib.hid (Kept.trans HK.out hk5 (fun _ _ h => h)); clear hk5)
      | fail)
    rw [rounds_succ]
    go_wp2_with (first
      | (go_at_call 42; (first | with_reducible refine (M0 _).mono ?_ | with_reducible refine (M1 _).mono ?_ | with_reducible refine (M2 _).mono ?_ | with_reducible refine (M3 _).mono ?_ | with_reducible refine (M4 _).mono ?_ | with_reducible refine (M5 _).mono ?_ | with_reducible refine (M6 _).mono ?_); rintro e w5 ⟨rfl, hk5⟩; have HK := Lib.hid (Kept.trans HK.out hk5 (fun _ _ h => h)); clear hk5)
      | (go_at_call 43; (first | with_reducible refine (T0 _).mono ?_ | with_reducible refine (T1 _).mono ?_ | with_reducible refine (T2 _).mono ?_ | with_reducible refine (T3 _).mono ?_ | with_reducible refine (T4 _).mono ?_ | with_reducible refine (T6 _).mono ?_); rintro e w5 ⟨rfl, hk5⟩; have HK := Lib.hid (Kept.trans HK.out hk5 (fun _ _ h => h)); clear hk5)
      | fail)
    go_ret2
    exact ⟨rfl, HK.out⟩
  by_cases e2 : l = [61]
  · subst e2
    go_enter Tryd.func27, Tryd.ntmps27
    go_wp2_with fail
    refine wp_loop_rounds 3 ?_
    rw [rounds_succ]
    go_wp2_with (first
      | (go_at_call 42; (first | with_reducible refine (M0 _).mono ?_ | with_reducible refine (M1 _).mono ?_ | with_reducible refine (M2 _).mono ?_ | with_reducible refine (M3 _).mono ?_ | with_reducible refine (M4 _).mono ?_ | with_reducible refine (M5 _).mono ?_ | with_reducible refine (M6 _).mono ?_); rintro e w5 ⟨rfl, hk5⟩; have HK := Lib.hid (Kept.trans HK.out hk5 (fun _ _ h => h)); clear hk5)
      | (go_at_call 43; (first | with_reducible refine (T0 _).mono ?_ | with_reducible refine (T1 _).mono ?_ | with_reducible refine (T2 _).mono ?_ | with_reducible refine (T3 _).mono ?_ | with_reducible refine (T4 _).mono ?_ | with_reducible refine (T6 _).mono ?_); rintro e w5 ⟨rfl, hk5⟩; have HK := Lib.hid (Kept.trans HK.out hk5 (fun _ _ h => h)); clear hk5)
      | fail)
    rw [rounds_succ]
    go_wp2_with (first
      | (go_at_call 42; (first | with_reducible refine (M0 _).mono ?_ | with_reducible refine (M1 _).mono ?_ | with_reducible refine (M2 _).mono ?_ | with_reducible refine (M3 _).mono ?_ | with_reducible refine (M4 _).mono ?_ | with_reducible refine (M5 _).mono ?_ | with_reducible refine (M6 _).mono ?_); rintro e w5 ⟨rfl, hk5⟩; have HK := Lib.hid (Kept.trans HK.out hk5 (fun _ _ h => h)); clear hk5)
      | (go_at_call 43; (first | with_reducible refine (T0 _).mono ?_ | with_reducible refine (T1 _).mono ?_ | with_reducible refine (T2 _).mono ?_ | with_reducible refine (T3 _).mono ?_ | with_reducible refine (T4 _).mono ?_ | with_reducible refine (T6 _).mono ?_); rintro e w5 ⟨rfl, hk5⟩; have HK := Lib.hid (Kept.trans HK.out hk5 (fun _ _ h => h)); clear hk5)
      | fail)
    rw [rounds_succ]
    go_wp2_with (first
      | (go_at_call 42; (first | with_reducible refine (M0 _).mono ?_ | with_reducible refine (M1 _).mono ?_ | with_reducible refine (M2 _).mono ?_ | with_reducible refine (M3 _).mono ?_ | with_reducible refine (M4 _).mono ?_ | with_reducible refine (M5 _).mono ?_ | with_reducible refine (M6 _).mono ?_); rintro e w5 ⟨rfl, hk5⟩; have HK := Lib.hid (Kept.trans HK.out hk5 (fun _ _ h => h)); clear hk5)
      | (go_at_call 43; (first | with_reducible refine (T0 _).mono ?_ | with_reducible refine (T1 _).mono ?_ | with_reducible refine (T2 _).mono ?_ | with_reducible refine (T3 _).mono ?_ | with_reducible refine (T4 _).mono ?_ | with_reducible refine (T6 _).mono ?_); rintro e w5 ⟨rfl, hk5⟩; have HK := Lib.hid (Kept.trans HK.out hk5 (fun _ _ h => h)); clear hk5)
      | fail)
    go_ret2
    exact ⟨rfl, HK.out⟩
  by_cases e3 : l = [60, 61]
  · subst e3
    go_enter Tryd.func27, Tryd.ntmps27
    go_wp2_with fail
    refine wp_loop_rounds 4 ?_
    rw [rounds_succ]
    go_wp2_with (first
      | (go_at_call 42; (first | with_reducible refine (M0 _).mono ?_ | with_reducible refine (M1 _).mono ?_ | with_reducible refine (M2 _).mono ?_ | with_reducible refine (M3 _).mono ?_ | with_reducible refine (M4 _).mono ?_ | with_reducible refine (M5 _).mono ?_ | with_reducible refine (M6 _).mono ?_); rintro e w5 ⟨rfl, hk5⟩; have HK := Lib.hid (Kept.trans HK.out hk5 (fun _ _ h => h)); clear hk5)
      | (go_at_call 43; (first | with_reducible refine (T0 _).mono ?_ | with_reducible refine (T1 _).mono ?_ | with_reducible refine (T2 _).mono ?_ | with_reducible refine (T3 _).mono ?_ | with_reducible refine (T4 _).mono ?_ | with_reducible refine (T6 _).mono ?_); rintro e w5 ⟨rfl, hk5⟩; have HK := Lib.hid (Kept.trans HK.out hk5 (fun _ _ h => h)); clear hk5)
      | fail)
    rw [rounds_succ]
    go_wp2_with (first
      | (go_at_call 42; (first | with_reducible refine (M0 _).mono ?_ | with_reducible refine (M1 _).mono ?_ | with_reducible refine (M2 _).mono ?_ | with_reducible refine (M3 _).mono ?_ | with_reducible refine (M4 _).mono ?_ | with_reducible refine (M5 _).mono ?_ | with_reducible refine (M6 _).mono ?_); rintro e w5 ⟨rfl, hk5⟩; have HK := Lib.hid (Kept.trans HK.out hk5 (fun _ _ h => h)); clear hk5)
      | (go_at_call 43; (first | with_reducible refine (T0 _).mono ?_ | with_reducible refine (T1 _).mono ?_ | with_reducible refine (T2 _).mono ?_ | with_reducible refine (T3 _).mono ?_ | with_reducible refine (T4 _).mono ?_ | with_reducible refine (T6 _).mono ?_); rintro e w5 ⟨rfl, hk5⟩; have HK := Lib.hid (Kept.trans HK.out hk5 (fun _ _ h => h)); clear hk5)
      | fail)
    rw [rounds_succ]
    go_wp2_with (first
      | (go_at_call 42; (first | with_reducible refine (M0 _).mono ?_ | with_reducible refine (M1 _).mono ?_ | with_reducible refine (M2 _).mono ?_ | with_reducible refine (M3 _).mono ?_ | with_reducible refine (M4 _).mono ?_ | with_reducible refine (M5 _).mono ?_ | with_reducible refine (M6 _).mono ?_); rintro e w5 ⟨rfl, hk5⟩; have HK := Lib.hid (Kept.trans HK.out hk5 (fun _ _ h => h)); clear hk5)
      | (go_at_call 43; (first | with_reducible refine (T0 _).mono ?_ | with_reducible refine (T1 _).mono ?_ | with_reducible refine (T2 _).mono ?_ | with_reducible refine (T3 _).mono ?_ | with_reducible refine (T4 _).mono ?_ | with_reducible refine (T6 _).mono ?_); rintro e w5 ⟨rfl, hk5⟩; have HK := Lib.hid (Kept.trans HK.out hk5 (fun _ _ h => h)); clear hk5)
      | fail)
    rw [rounds_succ]
    go_wp2_with (first
      | (go_at_call 42; (first | with_reducible refine (M0 _).mono ?_ | with_reducible refine (M1 _).mono ?_ | with_reducible refine (M2 _).mono ?_ | with_reducible refine (M3 _).mono ?_ | with_reducible refine (M4 _).mono ?_ | with_reducible refine (M5 _).mono ?_ | with_reducible refine (M6 _).mono ?_); rintro e w5 ⟨rfl, hk5⟩; have HK := Lib.hid (Kept.trans HK.out hk5 (fun _ _ h => h)); clear hk5)
      | (go_at_call 43; (first | with_reducible refine (T0 _).mono ?_ | with_reducible refine (T1 _).mono ?_ | with_reducible refine (T2 _).mono ?_ | with_reducible refine (T3 _).mono ?_ | with_reducible refine (T4 _).mono ?_ | with_reducible refine (T6 _).mono ?_); rintro e w5 ⟨rfl, hk5⟩; have HK := Lib.hid (Kept.trans HK.out hk5 (fun _ _ h => h)); clear hk5)
      | fail)
    go_ret2
    exact ⟨rfl, HK.out⟩
  by_cases e4 : l = [62]
  · subst e4
    go_enter Tryd.func27, Tryd.ntmps27
    go_wp2_with fail
    refine wp_loop_rounds 5 ?_
    rw [rounds_succ]
    go_wp2_with (first
      | (go_at_call 42; (first | with_reducible refine (M0 _).mono ?_ | with_reducible refine (M1 _).mono ?_ | with_reducible refine (M2 _).mono ?_ | with_reducible refine (M3 _).mono ?_ | with_reducible refine (M4 _).mono ?_ | with_reducible refine (M5 _).mono ?_ | with_reducible refine (M6 _).mono ?_); rintro e w5 ⟨rfl, hk5⟩; have HK := Lib.hid (Kept.trans HK.out hk5 (fun _ _ h => h)); clear hk5)
      | (go_at_call 43; (first | with_reducible refine (T0 _).mono ?_ | with_reducible refine (T1 _).mono ?_ | with_reducible refine (T2 _).mono ?_ | with_reducible refine (T3 _).mono ?_ | with_reducible refine (T4 _).mono ?_ | with_reducible refine (T6 _).mono ?_); rintro e w5 ⟨rfl, hk5⟩; have HK := Lib.hid (Kept.trans HK.out hk5 (fun _ _ h => h)); clear hk5)
      | fail)
    rw [rounds_succ]
    go_wp2_with (first
      | (go_at_call 42; (first | with_reducible refine (M0 _).mono ?_ | with_reducible refine (M1 _).mono ?_ | with_reducible refine (M2 _).mono ?_ | with_reducible refine (M3 _).mono ?_ | with_reducible refine (M4 _).mono ?_ | with_reducible refine (M5 _).mono ?_ | with_reducible refine (M6 _).mono ?_); rintro e w5 ⟨rfl, hk5⟩; have HK := Lib.hid (Kept.trans HK.out hk5 (fun _ _ h => h)); clear hk5)
      | (go_at_call 43; (first | with_reducible refine (T0 _).mono ?_ | with_reducible refine (T1 _).mono ?_ | with_reducible refine (T2 _).mono ?_ | with_reducible refine (T3 _).mono ?_ | with_reducible refine (T4 _).mono ?_ | with_reducible refine (T6 _).mono ?_); rintro e w5 ⟨rfl, hk5⟩; have HK := Lib.hid (Kept.trans HK.out hk5 (fun _ _ h => h)); clear hk5)
      | fail)
    rw [rounds_succ]
    go_wp2_with (first
      | (go_at_call 42; (first | with_reducible refine (M0 _).mono ?_ | with_reducible refine (M1 _).mono ?_ | with_reducible refine (M2 _).mono ?_ | with_reducible refine (M3 _).mono ?_ | with_reducible refine (M4 _).mono ?_ | with_reducible refine (M5 _).mono ?_ | with_reducible refine (M6 _).mono ?_); rintro e w5 ⟨rfl, hk5⟩; have HK := Lib.hid (Kept.trans HK.out hk5 (fun _ _ h => h)); clear hk5)
      | (go_at_call 43; (first | with_reducible refine (T0 _).mono ?_ | with_reducible refine (T1 _).mono ?_ | with_reducible refine (T2 _).mono ?_ | with_reducible refine (T3 _).mono ?_ | with_reducible refine (T4 _).mono ?_ | with_reducible refine (T6 _).mono ?_); rintro e w5 ⟨rfl, hk5⟩; have HK := Lib.hid (Kept.trans HK.out hk5 (fun _ _ h => h)); clear hk5)
      | fail)
    rw [rounds_succ]
    go_wp2_with (first
      | (go_at_call 42; (first | with_reducible refine (M0 _).mono ?_ | with_reducible refine (M1 _).mono ?_ | with_reducible refine (M2 _).mono ?_ | with_reducible refine (M3 _).mono ?_ | with_reducible refine (M4 _).mono ?_ | with_reducible refine (M5 _).mono ?_ | with_reducible refine (M6 _).mono ?_); rintro e w5 ⟨rfl, hk5⟩; have HK := Lib.hid (Kept.trans HK.out hk5 (fun _ _ h => h)); clear hk5)
      | (go_at_call 43; (first | with_reducible refine (T0 _).mono ?_ | with_reducible refine (T1 _).mono ?_ | with_reducible refine (T2 _).mono ?_ | with_reducible refine (T3 _).mono ?_ | with_reducible refine (T4 _).mono ?_ | with_reducible refine (T6 _).mono ?_); rintro e w5 ⟨rfl, hk5⟩; have HK := Lib.hid (Kept.trans HK.out hk5 (fun _ _ h => h)); clear hk5)
      | fail)
    rw [rounds_succ]
    go_wp2_with (first
      | (go_at_call 42; (first | with_reducible refine (M0 _).mono ?_ | with_reducible refine (M1 _).mono ?_ | with_reducible refine (M2 _).mono ?_ | with_reducible refine (M3 _).mono ?_ | with_reducible refine (M4 _).mono ?_ | with_reducible refine (M5 _).mono ?_ | with_reducible refine (M6 _).mono ?_); rintro e w5 ⟨rfl, hk5⟩; have HK := Lib.hid (Kept.trans HK.out hk5 (fun _ _ h => h)); clear hk5)
      | (go_at_call 43; (first | with_reducible refine (T0 _).mono ?_ | with_reducible refine (T1 _).mono ?_ | with_reducible refine (T2 _).mono ?_ | with_reducible refine (T3 _).mono ?_ | with_reducible refine (T4 _).mono ?_ | with_reducible refine (T6 _).mono ?_); rintro e w5 ⟨rfl, hk5⟩; have HK := Lib.hid (Kept.trans HK.out hk5 (fun _ _ h => h)); clear hk5)
      | fail)
    go_ret2
    exact ⟨rfl, HK.out⟩
  by_cases e6 : l = [62, 61]
  · subst e6
    go_enter Tryd.func27, Tryd.ntmps27
    go_wp2_with fail
    refine wp_loop_rounds 7 ?_
    rw [rounds_succ]
    go_wp2_with (first
      | (go_at_call 42; (first | with_reducible refine (M0 _).mono ?_ | with_reducible refine (M1 _).mono ?_ | with_reducible refine (M2 _).mono ?_ | with_reducible refine (M3 _).mono ?_ | with_reducible refine (M4 _).mono ?_ | with_reducible refine (M5 _).mono ?_ | with_reducible refine (M6 _).mono ?_); rintro e w5 ⟨rfl, hk5⟩; have HK := Lib.hid (Kept.trans HK.out hk5 (fun _ _ h => h)); clear hk5)
      | (go_at_call 43; (first | with_reducible refine (T0 _).mono ?_ | with_reducible refine (T1 _).mono ?_ | with_reducible refine (T2 _).mono ?_ | with_reducible refine (T3 _).mono ?_ | with_reducible refine (T4 _).mono ?_ | with_reducible refine (T6 _).mono ?_); rintro e w5 ⟨rfl, hk5⟩; have HK := Lib.hid (Kept.trans HK.out hk5 (fun _ _ h => h)); clear hk5)
      | fail)
    rw [rounds_succ]
    go_wp2_with (first
      | (go_at_call 42; (first | with_reducible refine (M0 _).mono ?_ | with_reducible refine (M1 _).mono ?_ | with_reducible refine (M2 _).mono ?_ | with_reducible refine (M3 _).mono ?_ | with_reducible refine (M4 _).mono ?_ | with_reducible refine (M5 _).mono ?_ | with_reducible refine (M6 _).mono ?_); rintro e w5 ⟨rfl, hk5⟩; have HK := Lib.hid (Kept.trans HK.out hk5 (fun _ _ h => h)); clear hk5)
      | (go_at_call 43; (first | with_reducible refine (T0 _).mono ?_ | with_reducible refine (T1 _).mono ?_ | with_reducible refine (T2 _).mono ?_ | with_reducible refine (T3 _).mono ?_ | with_reducible refine (T4 _).mono ?_ | with_reducible refine (T6 _).mono ?_); rintro e w5 ⟨rfl, hk5⟩; have HK := Lib.hid (Kept.trans HK.out hk5 (fun _ _ h => h)); clear hk5)
      | fail)
    rw [rounds_succ]
    go_wp2_with (first
      | (go_at_call 42; (first | with_reducible refine (M0 _).mono ?_ | with_reducible refine (M1 _).mono ?_ | with_reducible refine (M2 _).mono ?_ | with_reducible refine (M3 _).mono ?_ | with_reducible refine (M4 _).mono ?_ | with_reducible refine (M5 _).mono ?_ | with_reducible refine (M6 _).mono ?_); rintro e w5 ⟨rfl, hk5⟩; have HK := Lib.hid (Kept.trans HK.out hk5 (fun _ _ h => h)); clear hk5)
      | (go_at_call 43; (first | with_reducible refine (T0 _).mono ?_ | with_reducible refine (T1 _).mono ?_ | with_reducible refine (T2 _).mono ?_ | with_reducible refine (T3 _).mono ?_ | with_reducible refine (T4 _).mono ?_ | with_reducible refine (T6 _).mono ?_); rintro e w5 ⟨rfl, hk5⟩; have HK := Lib.hid (Kept.trans HK.out hk5 (fun _ _ h => h)); clear hk5)
      | fail)
    rw [rounds_succ]
    go_wp2_with (first
      | (go_at_call 42; (first | with_reducible refine (M0 _).mono ?_ | with_reducible refine (M1 _).mono ?_ | with_reducible refine (M2 _).mono ?_ | with_reducible refine (M3 _).mono ?_ | with_reducible refine (M4 _).mono ?_ | with_reducible refine (M5 _).mono ?_ | with_reducible refine (M6 _).mono ?_); rintro e w5 ⟨rfl, hk5⟩; have HK := Lib.hid (Kept.trans HK.out hk5 (fun _ _ h => h)); clear hk5)
      | (go_at_call 43; (first | with_reducible refine (T0 _).mono ?_ | with_reducible refine (T1 _).mono ?_ | with_reducible refine (T2 _).mono ?_ | with_reducible refine (T3 _).mono ?_ | with_reducible refine (T4 _).mono ?_ | with_reducible refine (T6 _).mono ?_); rintro e w5 ⟨rfl, hk5⟩; have HK := Lib.hid (Kept.trans HK.out hk5 (fun _ _ h => h)); clear hk5)
      | fail)
    rw [rounds_succ]
    go_wp2_with (first
      | (go_at_call 42; (first | with_reducible refine (M0 _).mono ?_ | with_reducible refine (M1 _).mono ?_ | with_reducible refine (M2 _).mono ?_ | with_reducible refine (M3 _).mono ?_ | with_reducible refine (M4 _).mono ?_ | with_reducible refine (M5 _).mono ?_ | with_reducible refine (M6 _).mono ?_); rintro e w5 ⟨rfl, hk5⟩; have HK := Lib.hid (Kept.trans HK.out hk5 (fun _ _ h => h)); clear hk5)
      | (go_at_call 43; (first | with_reducible refine (T0 _).mono ?_ | with_reducible refine (T1 _).mono ?_ | with_reducible refine (T2 _).mono ?_ | with_reducible refine (T3 _).mono ?_ | with_reducible refine (T4 _).mono ?_ | with_reducible refine (T6 _).mono ?_); rintro e w5 ⟨rfl, hk5⟩; have HK := Lib.hid (Kept.trans HK.out hk5 (fun _ _ h => h)); clear hk5)
      | fail)
    rw [rounds_succ]
    go_wp2_with (first
      | (go_at_call 42; (first | with_reducible refine (M0 _).mono ?_ | with_reducible refine (M1 _).mono ?_ | with_reducible refine (M2 _).mono ?_ | with_reducible refine (M3 _).mono ?_ | with_reducible refine (M4 _).mono ?_ | with_reducible refine (M5 _).mono ?_ | with_reducible refine (M6 _).mono ?_); rintro e w5 ⟨rfl, hk5⟩; have HK := Lib.hid (Kept.trans HK.out hk5 (fun _ _ h => h)); clear hk5)
      | (go_at_call 43; (first | with_reducible refine (T0 _).mono ?_ | with_reducible refine (T1 _).mono ?_ | with_reducible refine (T2 _).mono ?_ | with_reducible refine (T3 _).mono ?_ | with_reducible refine (T4 _).mono ?_ | with_reducible refine (T6 _).mono ?_); rintro e w5 ⟨rfl, hk5⟩; have HK := Lib.hid (Kept.trans HK.out hk5 (fun _ _ h => h)); clear hk5)
      | fail)
    rw [rounds_succ]
    go_wp2_with (first
      | (go_at_call 42; (first | with_reducible refine (M0 _).mono ?_ | with_reducible refine (M1 _).mono ?_ | with_reducible refine (M2 _).mono ?_ | with_reducible refine (M3 _).mono ?_ | with_reducible refine (M4 _).mono ?_ | with_reducible refine (M5 _).mono ?_ | with_reducible refine (M6 _).mono ?_); rintro e w5 ⟨rfl, hk5⟩; have HK := Lib.hid (Kept.trans HK.out hk5 (fun _ _ h => h)); clear hk5)
      | (go_at_call 43; (first | with_reducible refine (T0 _).mono ?_ | with_reducible refine (T1 _).mono ?_ | with_reducible refine (T2 _).mono ?_ | with_reducible refine (T3 _).mono ?_ | with_reducible refine (T4 _).mono ?_ | with_reducible refine (T6 _).mono ?_); rintro e w5 ⟨rfl, hk5⟩; have HK := Lib.hid (Kept.trans HK.out hk5 (fun _ _ h => h)); clear hk5)
      | fail)
    go_ret2
    exact ⟨rfl, HK.out⟩
  have hv : parseL l = (0, false) := by unfold parseL; simp only [e0, e1, e2, e3, e4, e6, if_false]
  rw [hv]
  have g0 : l.isEmpty = false := by cases l; exact absurd rfl e0; rfl
  have g1 : ([60] == l) = false := beq_eq_false_iff_ne.2 (fun e => e1 e.symm)
  have g2 : ([61] == l) = false := beq_eq_false_iff_ne.2 (fun e => e2 e.symm)
  have g3 : ([60, 61] == l) = false := beq_eq_false_iff_ne.2 (fun e => e3 e.symm)
  have g4 : ([62] == l) = false := beq_eq_false_iff_ne.2 (fun e => e4 e.symm)
  have g6 : ([62, 61] == l) = false := beq_eq_false_iff_ne.2 (fun e => e6 e.symm)
  clear hv e0 e1 e2 e3 e4 e6
  go_enter Tryd.func27, Tryd.ntmps27
  go_wp2_with fail
  refine wp_loop_rounds 8 ?_
  rw [rounds_succ]
  go_wp2_with (first
    | (go_at_call 42; (first | with_reducible refine (M0 _).mono ?_ | with_reducible refine (M1 _).mono ?_ | with_reducible refine (M2 _).mono ?_ | with_reducible refine (M3 _).mono ?_ | with_reducible refine (M4 _).mono ?_ | with_reducible refine (M5 _).mono ?_ | with_reducible refine (M6 _).mono ?_); rintro e w5 ⟨rfl, hk5⟩; have HK := Lib.hid (Kept.trans HK.out hk5 (fun _ _ h => h)); clear hk5)
    | (go_at_call 43; (first | with_reducible refine (T0 _).mono ?_ | with_reducible refine (T1 _).mono ?_ | with_reducible refine (T2 _).mono ?_ | with_reducible refine (T3 _).mono ?_ | with_reducible refine (T4 _).mono ?_ | with_reducible refine (T6 _).mono ?_); rintro e w5 ⟨rfl, hk5⟩; have HK := Lib.hid (Kept.trans HK.out hk5 (fun _ _ h => h)); clear hk5)
    | fail)
  rw [rounds_succ]
  go_wp2_with (first
    | (go_at_call 42; (first | with_reducible refine (M0 _).mono ?_ | with_reducible refine (M1 _).mono ?_ | with_reducible refine (M2 _).mono ?_ | with_reducible refine (M3 _).mono ?_ | with_reducible refine (M4 _).mono ?_ | with_reducible refine (M5 _).mono ?_ | with_reducible refine (M6 _).mono ?_); rintro e w5 ⟨rfl, hk5⟩; have HK := Lib.hid (Kept.trans HK.out hk5 (fun _ _ h => h)); clear hk5)
    | (go_at_call 43; (first | with_reducible refine (T0 _).mono ?_ | with_reducible refine (T1 _).mono ?_ | with_reducible refine (T2 _).mono ?_ | with_reducible refine (T3 _).mono ?_ | with_reducible refine (T4 _).mono ?_ | with_reducible refine (T6 _).mono ?_); rintro e w5 ⟨rfl, hk5⟩; have HK := Lib.hid (Kept.trans HK.out hk5 (fun _ _ h => h)); clear hk5)
    | fail)
  rw [rounds_succ]
  go_wp2_with (first
    | (go_at_call 42; (first | with_reducible refine (M0 _).mono ?_ | with_reducible refine (M1 _).mono ?_ | with_reducible refine (M2 _).mono ?_ | with_reducible refine (M3 _).mono ?_ | with_reducible refine (M4 _).mono ?_ | with_reducible refine (M5 _).mono ?_ | with_reducible refine (M6 _).mono ?_); rintro e w5 ⟨rfl, hk5⟩; have HK := Lib.hid (Kept.trans HK.out hk5 (fun _ _ h => h)); clear hk5)
    | (go_at_call 43; (first | with_reducible refine (T0 _).mono ?_ | with_reducible refine (T1 _).mono ?_ | with_reducible refine (T2 _).mono ?_ | with_reducible refine (T3 _).mono ?_ | with_reducible refine (T4 _).mono ?_ | with_reducible refine (T6 _).mono ?_); rintro e w5 ⟨rfl, hk5⟩; have HK := Lib.hid (Kept.trans HK.out hk5 (fun _ _ h => h)); clear hk5)
    | fail)
  rw [rounds_succ]
  go_wp2_with (first
    | (go_at_call 42; (first | with_reducible refine (M0 _).mono ?_ | with_reducible refine (M1 _).mono ?_ | with_reducible refine (M2 _).mono ?_ | with_reducible refine (M3 _).mono ?_ | with_reducible refine (M4 _).mono ?_ | with_reducible refine (M5 _).mono ?_ | with_reducible refine (M6 _).mono ?_); rintro e w5 ⟨rfl, hk5⟩; have HK := Lib.hid (Kept.trans HK.out hk5 (fun _ _ h => h)); clear hk5)
    | (go_at_call 43; (first | with_reducible refine (T0 _).mono ?_ | with_reducible refine (T1 _).mono ?_ | with_reducible refine (T2 _).mono ?_ | with_reducible refine (T3 _).mono ?_ | with_reducible refine (T4 _).mono ?_ | with_reducible refine (T6 _).mono ?_); rintro e w5 ⟨rfl, hk5⟩; have HK := Lib.hid (Kept.trans HK.out hk5 (fun _ _ h => h)); clear hk5)
    | fail)
  rw [rounds_succ]
  go_wp2_with (first
    | (go_at_call 42; (first | with_reducible refine (M0 _).mono ?_ | with_reducible refine (M1 _).mono ?_ | with_reducible refine (M2 _).mono ?_ | with_reducible refine (M3 _).mono ?_ | with_reducible refine (M4 _).mono ?_ | with_reducible refine (M5 _).mono ?_ | with_reducible refine (M6 _).mono ?_); rintro e w5 ⟨rfl, hk5⟩; have HK := Lib.hid (Kept.trans HK.out hk5 (fun _ _ h => h)); clear hk5)
    | (go_at_call 43; (first | with_reducible refine (T0 _).mono ?_ | with_reducible refine (T1 _).mono ?_ | with_reducible refine (T2 _).mono ?_ | with_reducible refine (T3 _).mono ?_ | with_reducible refine (T4 _).mono ?_ | with_reducible refine (T6 _).mono ?_); rintro e w5 ⟨rfl, hk5⟩; have HK := Lib.hid (Kept.trans HK.out hk5 (fun _ _ h => h)); clear hk5)
    | fail)
  rw [rounds_succ]
  go_wp2_with (first
    | (go_at_call 42; (first | with_reducible refine (M0 _).mono ?_ | with_reducible refine (M1 _).mono ?_ | with_reducible refine (M2 _).mono ?_ | with_reducible refine (M3 _).mono ?_ | with_reducible refine (M4 _).mono ?_ | with_reducible refine (M5 _).mono ?_ | with_reducible refine (M6 _).mono ?_); rintro e w5 ⟨rfl, hk5⟩; have HK := Lib.hid (Kept.trans HK.out hk5 (fun _ _ h => h)); clear hk5)
    | (go_at_call 43; (first | with_reducible refine (T0 _).mono ?_ | with_reducible refine (T1 _).mono ?_ | with_reducible refine (T2 _).mono ?_ | with_reducible refine (T3 _).mono ?_ | with_reducible refine (T4 _).mono ?_ | with_reducible refine (T6 _).mono ?_); rintro e w5 ⟨rfl, hk5⟩; have HK := Lib.hid (Kept.trans HK.out hk5 (fun _ _ h => h)); clear hk5)
    | fail)
  rw [rounds_succ]
  go_wp2_with (first
    | (go_at_call 42; (first | with_reducible refine (M0 _).mono ?_ | with_reducible refine (M1 _).mono ?_ | with_reducible refine (M2 _).mono ?_ | with_reducible refine (M3 _).mono ?_ | with_reducible refine (M4 _).mono ?_ | with_reducible refine (M5 _).mono ?_ | with_reducible refine (M6 _).mono ?_); rintro e w5 ⟨rfl, hk5⟩; have HK := Lib.hid (Kept.trans HK.out hk5 (fun _ _ h => h)); clear hk5)
    | (go_at_call 43; (first | with_reducible refine (T0 _).mono ?_ | with_reducible refine (T1 _).mono ?_ | with_reducible refine (T2 _).mono ?_ | with_reducible refine (T3 _).mono ?_ | with_reducible refine (T4 _).mono ?_ | with_reducible refine (T6 _).mono ?_); rintro e w5 ⟨rfl, hk5⟩; have HK := Lib.hid (Kept.trans HK.out hk5 (fun _ _ h => h)); clear hk5)
    | fail)
  rw [rounds_succ]
  go_wp2_with fail
  go_ret2
  exact ⟨rfl, HK.out⟩
end
end Go.Proofs.YtncononmlgmabaaDoor
