/-
  The walk over the document's answer for layer 4: the Op of a text. The contracts of the document's Of and Parse (layer 6). Conditions: as each theorem states.
-/
import Derived.Test.YtlagnebgoclaeaaGreatDoorK17
import Derived.Test.YtlagnebgoclaeaaGreatDoorK31
namespace Go.Proofs.YtlagnebgoclaeaaGreatDoor
open Go.RowKit Span Evr

section
set_option maxRecDepth 100000 in
set_option maxHeartbeats 1000000 in
theorem parse4 (s : ByteArray) (w : World) : Calls Tryz.prog 53 #[.string s] w fun e w' => e = .returned (.tuple #[.int .u8 ((parseL s.data.toList).1 : Int), .bool (parseL s.data.toList).2]) ∧ Kept (fun _ => False) w w' := by
  have M0 : ∀ W, Calls Tryz.prog 65 #[.int .u8 0] W fun e w' => e = .returned (.bool true) ∧ Kept (fun _ => False) W w' := fun W => may4 0 (by decide) W
  have M1 : ∀ W, Calls Tryz.prog 65 #[.int .u8 1] W fun e w' => e = .returned (.bool true) ∧ Kept (fun _ => False) W w' := fun W => may4 1 (by decide) W
  have M2 : ∀ W, Calls Tryz.prog 65 #[.int .u8 2] W fun e w' => e = .returned (.bool true) ∧ Kept (fun _ => False) W w' := fun W => may4 2 (by decide) W
  have M3 : ∀ W, Calls Tryz.prog 65 #[.int .u8 3] W fun e w' => e = .returned (.bool true) ∧ Kept (fun _ => False) W w' := fun W => may4 3 (by decide) W
  have M4 : ∀ W, Calls Tryz.prog 65 #[.int .u8 4] W fun e w' => e = .returned (.bool true) ∧ Kept (fun _ => False) W w' := fun W => may4 4 (by decide) W
  have M5 : ∀ W, Calls Tryz.prog 65 #[.int .u8 5] W fun e w' => e = .returned (.bool false) ∧ Kept (fun _ => False) W w' := fun W => may4 5 (by decide) W
  have M6 : ∀ W, Calls Tryz.prog 65 #[.int .u8 6] W fun e w' => e = .returned (.bool true) ∧ Kept (fun _ => False) W w' := fun W => may4 6 (by decide) W
  have T0 : ∀ W, Calls Tryz.prog 58 #[.int .u8 0] W fun e w' => e = .returned (.string ⟨#[]⟩) ∧ Kept (fun _ => False) W w' := fun W => text4 0 (by decide) W
  have T1 : ∀ W, Calls Tryz.prog 58 #[.int .u8 1] W fun e w' => e = .returned (.string ⟨#[60]⟩) ∧ Kept (fun _ => False) W w' := fun W => text4 1 (by decide) W
  have T2 : ∀ W, Calls Tryz.prog 58 #[.int .u8 2] W fun e w' => e = .returned (.string ⟨#[61]⟩) ∧ Kept (fun _ => False) W w' := fun W => text4 2 (by decide) W
  have T3 : ∀ W, Calls Tryz.prog 58 #[.int .u8 3] W fun e w' => e = .returned (.string ⟨#[60, 61]⟩) ∧ Kept (fun _ => False) W w' := fun W => text4 3 (by decide) W
  have T4 : ∀ W, Calls Tryz.prog 58 #[.int .u8 4] W fun e w' => e = .returned (.string ⟨#[62]⟩) ∧ Kept (fun _ => False) W w' := fun W => text4 4 (by decide) W
  have T6 : ∀ W, Calls Tryz.prog 58 #[.int .u8 6] W fun e w' => e = .returned (.string ⟨#[62, 61]⟩) ∧ Kept (fun _ => False) W w' := fun W => text4 6 (by decide) W
  have HK := Lib.hid (Kept.refl (fun _ => False) w)
  obtain ⟨⟨l⟩⟩ := s
  change Calls Tryz.prog _ _ w fun e w' => e = .returned (.tuple #[.int .u8 ((parseL l).1 : Int), .bool (parseL l).2]) ∧ Kept (fun _ => False) w w'
  by_cases e0 : l = []
  · subst e0
    go_enter Tryz.func53, Tryz.ntmps53
    go_wp2_with fail
    refine wp_loop_rounds 1 ?_
    rw [rounds_succ]
    go_wp2_with (first
      | (go_at_call 65; (first | with_reducible refine (M0 _).mono ?_ | with_reducible refine (M1 _).mono ?_ | with_reducible refine (M2 _).mono ?_ | with_reducible refine (M3 _).mono ?_ | with_reducible refine (M4 _).mono ?_ | with_reducible refine (M5 _).mono ?_ | with_reducible refine (M6 _).mono ?_); rintro e w5 ⟨rfl, hk5⟩; have HK := Lib.hid (Kept.trans HK.out hk5 (fun _ _ h => h)); clear hk5)
      | (go_at_call 58; (first | with_reducible refine (T0 _).mono ?_ | with_reducible refine (T1 _).mono ?_ | with_reducible refine (T2 _).mono ?_ | with_reducible refine (T3 _).mono ?_ | with_reducible refine (T4 _).mono ?_ | with_reducible refine (T6 _).mono ?_); rintro e w5 ⟨rfl, hk5⟩; have HK := Lib.hid (Kept.trans HK.out hk5 (fun _ _ h => h)); clear hk5)
      | fail)
    go_ret2
    exact ⟨rfl, HK.out⟩
  by_cases e1 : l = [60]
  · subst e1
    go_enter Tryz.func53, Tryz.ntmps53
    go_wp2_with fail
    refine wp_loop_rounds 2 ?_
    rw [rounds_succ]
    go_wp2_with (first
      | (go_at_call 65; (first | with_reducible refine (M0 _).mono ?_ | with_reducible refine (M1 _).mono ?_ | with_reducible refine (M2 _).mono ?_ | with_reducible refine (M3 _).mono ?_ | with_reducible refine (M4 _).mono ?_ | with_reducible refine (M5 _).mono ?_ | with_reducible refine (M6 _).mono ?_); rintro e w5 ⟨rfl, hk5⟩; have HK := Lib.hid (Kept.trans HK.out hk5 (fun _ _ h => h)); clear hk5)
      | (go_at_call 58; (first | with_reducible refine (T0 _).mono ?_ | with_reducible refine (T1 _).mono ?_ | with_reducible refine (T2 _).mono ?_ | with_reducible refine (T3 _).mono ?_ | with_reducible refine (T4 _).mono ?_ | with_reducible refine (T6 _).mono ?_); rintro e w5 ⟨rfl, hk5⟩; have HK := Lib.hid (Kept.trans HK.out hk5 (fun _ _ h => h)); clear hk5)
      | fail)
    rw [rounds_succ]
    go_wp2_with (first
      | (go_at_call 65; (first | with_reducible refine (M0 _).mono ?_ | with_reducible refine (M1 _).mono ?_ | with_reducible refine (M2 _).mono ?_ | with_reducible refine (M3 _).mono ?_ | with_reducible refine (M4 _).mono ?_ | with_reducible refine (M5 _).mono ?_ | with_reducible refine (M6 _).mono ?_); rintro e w5 ⟨rfl, hk5⟩; have HK := Lib.hid (Kept.trans HK.out hk5 (fun _ _ h => h)); clear hk5)
      | (go_at_call 58; (first | with_reducible refine (T0 _).mono ?_ | with_reducible refine (T1 _).mono ?_ | with_reducible refine (T2 _).mono ?_ | with_reducible refine (T3 _).mono ?_ | with_reducible refine (T4 _).mono ?_ | with_reducible refine (T6 _).mono ?_); rintro e w5 ⟨rfl, hk5⟩; have HK := Lib.hid (Kept.trans HK.out hk5 (fun _ _ h => h)); clear hk5)
      | fail)
    go_ret2
    exact ⟨rfl, HK.out⟩
  by_cases e2 : l = [61]
  · subst e2
    go_enter Tryz.func53, Tryz.ntmps53
    go_wp2_with fail
    refine wp_loop_rounds 3 ?_
    rw [rounds_succ]
    go_wp2_with (first
      | (go_at_call 65; (first | with_reducible refine (M0 _).mono ?_ | with_reducible refine (M1 _).mono ?_ | with_reducible refine (M2 _).mono ?_ | with_reducible refine (M3 _).mono ?_ | with_reducible refine (M4 _).mono ?_ | with_reducible refine (M5 _).mono ?_ | with_reducible refine (M6 _).mono ?_); rintro e w5 ⟨rfl, hk5⟩; have HK := Lib.hid (Kept.trans HK.out hk5 (fun _ _ h => h)); clear hk5)
      | (go_at_call 58; (first | with_reducible refine (T0 _).mono ?_ | with_reducible refine (T1 _).mono ?_ | with_reducible refine (T2 _).mono ?_ | with_reducible refine (T3 _).mono ?_ | with_reducible refine (T4 _).mono ?_ | with_reducible refine (T6 _).mono ?_); rintro e w5 ⟨rfl, hk5⟩; have HK := Lib.hid (Kept.trans HK.out hk5 (fun _ _ h => h)); clear hk5)
      | fail)
    rw [rounds_succ]
    go_wp2_with (first
      | (go_at_call 65; (first | with_reducible refine (M0 _).mono ?_ | with_reducible refine (M1 _).mono ?_ | with_reducible refine (M2 _).mono ?_ | with_reducible refine (M3 _).mono ?_ | with_reducible refine (M4 _).mono ?_ | with_reducible refine (M5 _).mono ?_ | with_reducible refine (M6 _).mono ?_); rintro e w5 ⟨rfl, hk5⟩; have HK := Lib.hid (Kept.trans HK.out hk5 (fun _ _ h => h)); clear hk5)
      | (go_at_call 58; (first | with_reducible refine (T0 _).mono ?_ | with_reducible refine (T1 _).mono ?_ | with_reducible refine (T2 _).mono ?_ | with_reducible refine (T3 _).mono ?_ | with_reducible refine (T4 _).mono ?_ | with_reducible refine (T6 _).mono ?_); rintro e w5 ⟨rfl, hk5⟩; have HK := Lib.hid (Kept.trans HK.out hk5 (fun _ _ h => h)); clear hk5)
      | fail)
    rw [rounds_succ]
    go_wp2_with (first
      | (go_at_call 65; (first | with_reducible refine (M0 _).mono ?_ | with_reducible refine (M1 _).mono ?_ | with_reducible refine (M2 _).mono ?_ | with_reducible refine (M3 _).mono ?_ | with_reducible refine (M4 _).mono ?_ | with_reducible refine (M5 _).mono ?_ | with_reducible refine (M6 _).mono ?_); rintro e w5 ⟨rfl, hk5⟩; have HK := Lib.hid (Kept.trans HK.out hk5 (fun _ _ h => h)); clear hk5)
      | (go_at_call 58; (first | with_reducible refine (T0 _).mono ?_ | with_reducible refine (T1 _).mono ?_ | with_reducible refine (T2 _).mono ?_ | with_reducible refine (T3 _).mono ?_ | with_reducible refine (T4 _).mono ?_ | with_reducible refine (T6 _).mono ?_); rintro e w5 ⟨rfl, hk5⟩; have HK := Lib.hid (Kept.trans HK.out hk5 (fun _ _ h => h)); clear hk5)
      | fail)
    go_ret2
    exact ⟨rfl, HK.out⟩
  by_cases e3 : l = [60, 61]
  · subst e3
    go_enter Tryz.func53, Tryz.ntmps53
    go_wp2_with fail
    refine wp_loop_rounds 4 ?_
    rw [rounds_succ]
    go_wp2_with (first
      | (go_at_call 65; (first | with_reducible refine (M0 _).mono ?_ | with_reducible refine (M1 _).mono ?_ | with_reducible refine (M2 _).mono ?_ | with_reducible refine (M3 _).mono ?_ | with_reducible refine (M4 _).mono ?_ | with_reducible refine (M5 _).mono ?_ | with_reducible refine (M6 _).mono ?_); rintro e w5 ⟨rfl, hk5⟩; have HK := Lib.hid (Kept.trans HK.out hk5 (fun _ _ h => h)); clear hk5)
      | (go_at_call 58; (first | with_reducible refine (T0 _).mono ?_ | with_reducible refine (T1 _).mono ?_ | with_reducible refine (T2 _).mono ?_ | with_reducible refine (T3 _).mono ?_ | with_reducible refine (T4 _).mono ?_ | with_reducible refine (T6 _).mono ?_); rintro e w5 ⟨rfl, hk5⟩; have HK := Lib.hid (Kept.trans HK.out hk5 (fun _ _ h => h)); clear hk5)
      | fail)
    rw [rounds_succ]
    go_wp2_with (first
      | (go_at_call 65; (first | with_reducible refine (M0 _).mono ?_ | with_reducible refine (M1 _).mono ?_ | with_reducible refine (M2 _).mono ?_ | with_reducible refine (M3 _).mono ?_ | with_reducible refine (M4 _).mono ?_ | with_reducible refine (M5 _).mono ?_ | with_reducible refine (M6 _).mono ?_); rintro e w5 ⟨rfl, hk5⟩; have HK := Lib.hid (Kept.trans HK.out hk5 (fun _ _ h => h)); clear hk5)
      | (go_at_call 58; (first | with_reducible refine (T0 _).mono ?_ | with_reducible refine (T1 _).mono ?_ | with_reducible refine (T2 _).mono ?_ | with_reducible refine (T3 _).mono ?_ | with_reducible refine (T4 _).mono ?_ | with_reducible refine (T6 _).mono ?_); rintro e w5 ⟨rfl, hk5⟩; have HK := Lib.hid (Kept.trans HK.out hk5 (fun _ _ h => h)); clear hk5)
      | fail)
    rw [rounds_succ]
    go_wp2_with (first
      | (go_at_call 65; (first | with_reducible refine (M0 _).mono ?_ | with_reducible refine (M1 _).mono ?_ | with_reducible refine (M2 _).mono ?_ | with_reducible refine (M3 _).mono ?_ | with_reducible refine (M4 _).mono ?_ | with_reducible refine (M5 _).mono ?_ | with_reducible refine (M6 _).mono ?_); rintro e w5 ⟨rfl, hk5⟩; have HK := Lib.hid (Kept.trans HK.out hk5 (fun _ _ h => h)); clear hk5)
      | (go_at_call 58; (first | with_reducible refine (T0 _).mono ?_ | with_reducible refine (T1 _).mono ?_ | with_reducible refine (T2 _).mono ?_ | with_reducible refine (T3 _).mono ?_ | with_reducible refine (T4 _).mono ?_ | with_reducible refine (T6 _).mono ?_); rintro e w5 ⟨rfl, hk5⟩; have HK := Lib.hid (Kept.trans HK.out hk5 (fun _ _ h => h)); clear hk5)
      | fail)
    rw [rounds_succ]
    go_wp2_with (first
      | (go_at_call 65; (first | with_reducible refine (M0 _).mono ?_ | with_reducible refine (M1 _).mono ?_ | with_reducible refine (M2 _).mono ?_ | with_reducible refine (M3 _).mono ?_ | with_reducible refine (M4 _).mono ?_ | with_reducible refine (M5 _).mono ?_ | with_reducible refine (M6 _).mono ?_); rintro e w5 ⟨rfl, hk5⟩; have HK := Lib.hid (Kept.trans HK.out hk5 (fun _ _ h => h)); clear hk5)
      | (go_at_call 58; (first | with_reducible refine (T0 _).mono ?_ | with_reducible refine (T1 _).mono ?_ | with_reducible refine (T2 _).mono ?_ | with_reducible refine (T3 _).mono ?_ | with_reducible refine (T4 _).mono ?_ | with_reducible refine (T6 _).mono ?_); rintro e w5 ⟨rfl, hk5⟩; have HK := Lib.hid (Kept.trans HK.out hk5 (fun _ _ h => h)); clear hk5)
      | fail)
    go_ret2
    exact ⟨rfl, HK.out⟩
  by_cases e4 : l = [62]
  · subst e4
    go_enter Tryz.func53, Tryz.ntmps53
    go_wp2_with fail
    refine wp_loop_rounds 5 ?_
    rw [rounds_succ]
    go_wp2_with (first
      | (go_at_call 65; (first | with_reducible refine (M0 _).mono ?_ | with_reducible refine (M1 _).mono ?_ | with_reducible refine (M2 _).mono ?_ | with_reducible refine (M3 _).mono ?_ | with_reducible refine (M4 _).mono ?_ | with_reducible refine (M5 _).mono ?_ | with_reducible refine (M6 _).mono ?_); rintro e w5 ⟨rfl, hk5⟩; have HK := Lib.hid (Kept.trans HK.out hk5 (fun _ _ h => h)); clear hk5)
      | (go_at_call 58; (first | with_reducible refine (T0 _).mono ?_ | with_reducible refine (T1 _).mono ?_ | with_reducible refine (T2 _).mono ?_ | with_reducible refine (T3 _).mono ?_ | with_reducible refine (T4 _).mono ?_ | with_reducible refine (T6 _).mono ?_); rintro e w5 ⟨rfl, hk5⟩; have HK := Lib.hid (Kept.trans HK.out hk5 (fun _ _ h => h)); clear hk5)
      | fail)
    rw [rounds_succ]
    go_wp2_with (first
      | (go_at_call 65; (first | with_reducible refine (M0 _).mono ?_ | with_reducible refine (M1 _).mono ?_ | with_reducible refine (M2 _).mono ?_ | with_reducible refine (M3 _).mono ?_ | with_reducible refine (M4 _).mono ?_ | with_reducible refine (M5 _).mono ?_ | with_reducible refine (M6 _).mono ?_); rintro e w5 ⟨rfl, hk5⟩; have HK := Lib.hid (Kept.trans HK.out hk5 (fun _ _ h => h)); clear hk5)
      | (go_at_call 58; (first | with_reducible refine (T0 _).mono ?_ | with_reducible refine (T1 _).mono ?_ | with_reducible refine (T2 _).mono ?_ | with_reducible refine (T3 _).mono ?_ | with_reducible refine (T4 _).mono ?_ | with_reducible refine (T6 _).mono ?_); rintro e w5 ⟨rfl, hk5⟩; have HK := Lib.hid (Kept.trans HK.out hk5 (fun _ _ h => h)); clear hk5)
      | fail)
    rw [rounds_succ]
    go_wp2_with (first
      | (go_at_call 65; (first | with_reducible refine (M0 _).mono ?_ | with_reducible refine (M1 _).mono ?_ | with_reducible refine (M2 _).mono ?_ | with_reducible refine (M3 _).mono ?_ | with_reducible refine (M4 _).mono ?_ | with_reducible refine (M5 _).mono ?_ | with_reducible refine (M6 _).mono ?_); rintro e w5 ⟨rfl, hk5⟩; have HK := Lib.hid (Kept.trans HK.out hk5 (fun _ _ h => h)); clear hk5)
      | (go_at_call 58; (first | with_reducible refine (T0 _).mono ?_ | with_reducible refine (T1 _).mono ?_ | with_reducible refine (T2 _).mono ?_ | with_reducible refine (T3 _).mono ?_ | with_reducible refine (T4 _).mono ?_ | with_reducible refine (T6 _).mono ?_); rintro e w5 ⟨rfl, hk5⟩; have HK := Lib.hid (Kept.trans HK.out hk5 (fun _ _ h => h)); clear hk5)
      | fail)
    rw [rounds_succ]
    go_wp2_with (first
      | (go_at_call 65; (first | with_reducible refine (M0 _).mono ?_ | with_reducible refine (M1 _).mono ?_ | with_reducible refine (M2 _).mono ?_ | with_reducible refine (M3 _).mono ?_ | with_reducible refine (M4 _).mono ?_ | with_reducible refine (M5 _).mono ?_ | with_reducible refine (M6 _).mono ?_); rintro e w5 ⟨rfl, hk5⟩; have HK := Lib.hid (Kept.trans HK.out hk5 (fun _ _ h => h)); clear hk5)
      | (go_at_call 58; (first | with_reducible refine (T0 _).mono ?_ | with_reducible refine (T1 _).mono ?_ | with_reducible refine (T2 _).mono ?_ | with_reducible refine (T3 _).mono ?_ | with_reducible refine (T4 _).mono ?_ | with_reducible refine (T6 _).mono ?_); rintro e w5 ⟨rfl, hk5⟩; have HK := Lib.hid (Kept.trans HK.out hk5 (fun _ _ h => h)); clear hk5)
      | fail)
    rw [rounds_succ]
    go_wp2_with (first
      | (go_at_call 65; (first | with_reducible refine (M0 _).mono ?_ | with_reducible refine (M1 _).mono ?_ | with_reducible refine (M2 _).mono ?_ | with_reducible refine (M3 _).mono ?_ | with_reducible refine (M4 _).mono ?_ | with_reducible refine (M5 _).mono ?_ | with_reducible refine (M6 _).mono ?_); rintro e w5 ⟨rfl, hk5⟩; have HK := Lib.hid (Kept.trans HK.out hk5 (fun _ _ h => h)); clear hk5)
      | (go_at_call 58; (first | with_reducible refine (T0 _).mono ?_ | with_reducible refine (T1 _).mono ?_ | with_reducible refine (T2 _).mono ?_ | with_reducible refine (T3 _).mono ?_ | with_reducible refine (T4 _).mono ?_ | with_reducible refine (T6 _).mono ?_); rintro e w5 ⟨rfl, hk5⟩; have HK := Lib.hid (Kept.trans HK.out hk5 (fun _ _ h => h)); clear hk5)
      | fail)
    go_ret2
    exact ⟨rfl, HK.out⟩
  by_cases e6 : l = [62, 61]
  · subst e6
    go_enter Tryz.func53, Tryz.ntmps53
    go_wp2_with fail
    refine wp_loop_rounds 7 ?_
    rw [rounds_succ]
    go_wp2_with (first
      | (go_at_call 65; (first | with_reducible refine (M0 _).mono ?_ | with_reducible refine (M1 _).mono ?_ | with_reducible refine (M2 _).mono ?_ | with_reducible refine (M3 _).mono ?_ | with_reducible refine (M4 _).mono ?_ | with_reducible refine (M5 _).mono ?_ | with_reducible refine (M6 _).mono ?_); rintro e w5 ⟨rfl, hk5⟩; have HK := Lib.hid (Kept.trans HK.out hk5 (fun _ _ h => h)); clear hk5)
      | (go_at_call 58; (first | with_reducible refine (T0 _).mono ?_ | with_reducible refine (T1 _).mono ?_ | with_reducible refine (T2 _).mono ?_ | with_reducible refine (T3 _).mono ?_ | with_reducible refine (T4 _).mono ?_ | with_reducible refine (T6 _).mono ?_); rintro e w5 ⟨rfl, hk5⟩; have HK := Lib.hid (Kept.trans HK.out hk5 (fun _ _ h => h)); clear hk5)
      | fail)
    rw [rounds_succ]
    go_wp2_with (first
      | (go_at_call 65; (first | with_reducible refine (M0 _).mono ?_ | with_reducible refine (M1 _).mono ?_ | with_reducible refine (M2 _).mono ?_ | with_reducible refine (M3 _).mono ?_ | with_reducible refine (M4 _).mono ?_ | with_reducible refine (M5 _).mono ?_ | with_reducible refine (M6 _).mono ?_); rintro e w5 ⟨rfl, hk5⟩; have HK := Lib.hid (Kept.trans HK.out hk5 (fun _ _ h => h)); clear hk5)
      | (go_at_call 58; (first | with_reducible refine (T0 _).mono ?_ | with_reducible refine (T1 _).mono ?_ | with_reducible refine (T2 _).mono ?_ | with_reducible refine (T3 _).mono ?_ | with_reducible refine (T4 _).mono ?_ | with_reducible refine (T6 _).mono ?_); rintro e w5 ⟨rfl, hk5⟩; have HK := Lib.hid (Kept.trans HK.out hk5 (fun _ _ h => h)); clear hk5)
      | fail)
    rw [rounds_succ]
    go_wp2_with (first
      | (go_at_call 65; (first | with_reducible refine (M0 _).mono ?_ | with_reducible refine (M1 _).mono ?_ | with_reducible refine (M2 _).mono ?_ | with_reducible refine (M3 _).mono ?_ | with_reducible refine (M4 _).mono ?_ | with_reducible refine (M5 _).mono ?_ | with_reducible refine (M6 _).mono ?_); rintro e w5 ⟨rfl, hk5⟩; have HK := Lib.hid (Kept.trans HK.out hk5 (fun _ _ h => h)); clear hk5)
      | (go_at_call 58; (first | with_reducible refine (T0 _).mono ?_ | with_reducible refine (T1 _).mono ?_ | with_reducible refine (T2 _).mono ?_ | with_reducible refine (T3 _).mono ?_ | with_reducible refine (T4 _).mono ?_ | with_reducible refine (T6 _).mono ?_); rintro e w5 ⟨rfl, hk5⟩; have HK := Lib.hid (Kept.trans HK.out hk5 (fun _ _ h => h)); clear hk5)
      | fail)
    rw [rounds_succ]
    go_wp2_with (first
      | (go_at_call 65; (first | with_reducible refine (M0 _).mono ?_ | with_reducible refine (M1 _).mono ?_ | with_reducible refine (M2 _).mono ?_ | with_reducible refine (M3 _).mono ?_ | with_reducible refine (M4 _).mono ?_ | with_reducible refine (M5 _).mono ?_ | with_reducible refine (M6 _).mono ?_); rintro e w5 ⟨rfl, hk5⟩; have HK := Lib.hid (Kept.trans HK.out hk5 (fun _ _ h => h)); clear hk5)
      | (go_at_call 58; (first | with_reducible refine (T0 _).mono ?_ | with_reducible refine (T1 _).mono ?_ | with_reducible refine (T2 _).mono ?_ | with_reducible refine (T3 _).mono ?_ | with_reducible refine (T4 _).mono ?_ | with_reducible refine (T6 _).mono ?_); rintro e w5 ⟨rfl, hk5⟩; have HK := Lib.hid (Kept.trans HK.out hk5 (fun _ _ h => h)); clear hk5)
      | fail)
    rw [rounds_succ]
    go_wp2_with (first
      | (go_at_call 65; (first | with_reducible refine (M0 _).mono ?_ | with_reducible refine (M1 _).mono ?_ | with_reducible refine (M2 _).mono ?_ | with_reducible refine (M3 _).mono ?_ | with_reducible refine (M4 _).mono ?_ | with_reducible refine (M5 _).mono ?_ | with_reducible refine (M6 _).mono ?_); rintro e w5 ⟨rfl, hk5⟩; have HK := Lib.hid (Kept.trans HK.out hk5 (fun _ _ h => h)); clear hk5)
      | (go_at_call 58; (first | with_reducible refine (T0 _).mono ?_ | with_reducible refine (T1 _).mono ?_ | with_reducible refine (T2 _).mono ?_ | with_reducible refine (T3 _).mono ?_ | with_reducible refine (T4 _).mono ?_ | with_reducible refine (T6 _).mono ?_); rintro e w5 ⟨rfl, hk5⟩; have HK := Lib.hid (Kept.trans HK.out hk5 (fun _ _ h => h)); clear hk5)
      | fail)
    rw [rounds_succ]
    go_wp2_with (first
      | (go_at_call 65; (first | with_reducible refine (M0 _).mono ?_ | with_reducible refine (M1 _).mono ?_ | with_reducible refine (M2 _).mono ?_ | with_reducible refine (M3 _).mono ?_ | with_reducible refine (M4 _).mono ?_ | with_reducible refine (M5 _).mono ?_ | with_reducible refine (M6 _).mono ?_); rintro e w5 ⟨rfl, hk5⟩; have HK := Lib.hid (Kept.trans HK.out hk5 (fun _ _ h => h)); clear hk5)
      | (go_at_call 58; (first | with_reducible refine (T0 _).mono ?_ | with_reducible refine (T1 _).mono ?_ | with_reducible refine (T2 _).mono ?_ | with_reducible refine (T3 _).mono ?_ | with_reducible refine (T4 _).mono ?_ | with_reducible refine (T6 _).mono ?_); rintro e w5 ⟨rfl, hk5⟩; have HK := Lib.hid (Kept.trans HK.out hk5 (fun _ _ h => h)); clear hk5)
      | fail)
    rw [rounds_succ]
    go_wp2_with (first
      | (go_at_call 65; (first | with_reducible refine (M0 _).mono ?_ | with_reducible refine (M1 _).mono ?_ | with_reducible refine (M2 _).mono ?_ | with_reducible refine (M3 _).mono ?_ | with_reducible refine (M4 _).mono ?_ | with_reducible refine (M5 _).mono ?_ | with_reducible refine (M6 _).mono ?_); rintro e w5 ⟨rfl, hk5⟩; have HK := Lib.hid (Kept.trans HK.out hk5 (fun _ _ h => h)); clear hk5)
      | (go_at_call 58; (first | with_reducible refine (T0 _).mono ?_ | with_reducible refine (T1 _).mono ?_ | with_reducible refine (T2 _).mono ?_ | with_reducible refine (T3 _).mono ?_ | with_reducible refine (T4 _).mono ?_ | with_reducible refine (T6 _).mono ?_); rintro e w5 ⟨rfl, hk5⟩; have HK := Lib.hid (Kept.trans HK.out hk5 (fun _ _ h => h)); clear hk5)
      | fail)
    go_ret2
    exact ⟨rfl, HK.out⟩
  have hv : parseL l = (0, false) := by unfold parseL; simp only [e0, e1, e2, e3, e4, e6, if_false]
  rw [hv]
  have g0 : l.isEmpty = false := by cases l; exact absurd rfl e0; rfl
  have g1 : ([60] == l) = false := beq_eq_false_iff_ne.2 (fun e => e1 e.symm)
  have g2 : ([61] == l) = false := beq_eq_false_iff_ne.2 (fun e => e2 e.symm)
  have g3 : ([60, 61] == l) = false := beq_eq_false_iff_ne.2 (fun e => e3 e.symm)
  have g4 : ([62] == l) = false := beq_eq_false_iff_ne.2 (fun e => e4 e.symm)
  have g6 : ([62, 61] == l) = false := beq_eq_false_iff_ne.2 (fun e => e6 e.symm)
  clear hv e0 e1 e2 e3 e4 e6
  go_enter Tryz.func53, Tryz.ntmps53
  go_wp2_with fail
  refine wp_loop_rounds 8 ?_
  rw [rounds_succ]
  go_wp2_with (first
    | (go_at_call 65; (first | with_reducible refine (M0 _).mono ?_ | with_reducible refine (M1 _).mono ?_ | with_reducible refine (M2 _).mono ?_ | with_reducible refine (M3 _).mono ?_ | with_reducible refine (M4 _).mono ?_ | with_reducible refine (M5 _).mono ?_ | with_reducible refine (M6 _).mono ?_); rintro e w5 ⟨rfl, hk5⟩; have HK := Lib.hid (Kept.trans HK.out hk5 (fun _ _ h => h)); clear hk5)
    | (go_at_call 58; (first | with_reducible refine (T0 _).mono ?_ | with_reducible refine (T1 _).mono ?_ | with_reducible refine (T2 _).mono ?_ | with_reducible refine (T3 _).mono ?_ | with_reducible refine (T4 _).mono ?_ | with_reducible refine (T6 _).mono ?_); rintro e w5 ⟨rfl, hk5⟩; have HK := Lib.hid (Kept.trans HK.out hk5 (fun _ _ h => h)); clear hk5)
    | fail)
  rw [rounds_succ]
  go_wp2_with (first
    | (go_at_call 65; (first | with_reducible refine (M0 _).mono ?_ | with_reducible refine (M1 _).mono ?_ | with_reducible refine (M2 _).mono ?_ | with_reducible refine (M3 _).mono ?_ | with_reducible refine (M4 _).mono ?_ | with_reducible refine (M5 _).mono ?_ | with_reducible refine (M6 _).mono ?_); rintro e w5 ⟨rfl, hk5⟩; have HK := Lib.hid (Kept.trans HK.out hk5 (fun _ _ h => h)); clear hk5)
    | (go_at_call 58; (first | with_reducible refine (T0 _).mono ?_ | with_reducible refine (T1 _).mono ?_ | with_reducible refine (T2 _).mono ?_ | with_reducible refine (T3 _).mono ?_ | with_reducible refine (T4 _).mono ?_ | with_reducible refine (T6 _).mono ?_); rintro e w5 ⟨rfl, hk5⟩; have HK := Lib.hid (Kept.trans HK.out hk5 (fun _ _ h => h)); clear hk5)
    | fail)
  rw [rounds_succ]
  go_wp2_with (first
    | (go_at_call 65; (first | with_reducible refine (M0 _).mono ?_ | with_reducible refine (M1 _).mono ?_ | with_reducible refine (M2 _).mono ?_ | with_reducible refine (M3 _).mono ?_ | with_reducible refine (M4 _).mono ?_ | with_reducible refine (M5 _).mono ?_ | with_reducible refine (M6 _).mono ?_); rintro e w5 ⟨rfl, hk5⟩; have HK := Lib.hid (Kept.trans HK.out hk5 (fun _ _ h => h)); clear hk5)
    | (go_at_call 58; (first | with_reducible refine (T0 _).mono ?_ | with_reducible refine (T1 _).mono ?_ | with_reducible refine (T2 _).mono ?_ | with_reducible refine (T3 _).mono ?_ | with_reducible refine (T4 _).mono ?_ | with_reducible refine (T6 _).mono ?_); rintro e w5 ⟨rfl, hk5⟩; have HK := Lib.hid (Kept.trans HK.out hk5 (fun _ _ h => h)); clear hk5)
    | fail)
  rw [rounds_succ]
  go_wp2_with (first
    | (go_at_call 65; (first | with_reducible refine (M0 _).mono ?_ | with_reducible refine (M1 _).mono ?_ | with_reducible refine (M2 _).mono ?_ | with_reducible refine (M3 _).mono ?_ | with_reducible refine (M4 _).mono ?_ | with_reducible refine (M5 _).mono ?_ | with_reducible refine (M6 _).mono ?_); rintro e w5 ⟨rfl, hk5⟩; have HK := Lib.hid (Kept.trans HK.out hk5 (fun _ _ h => h)); clear hk5)
    | (go_at_call 58; (first | with_reducible refine (T0 _).mono ?_ | with_reducible refine (T1 _).mono ?_ | with_reducible refine (T2 _).mono ?_ | with_reducible refine (T3 _).mono ?_ | with_reducible refine (T4 _).mono ?_ | with_reducible refine (T6 _).mono ?_); rintro e w5 ⟨rfl, hk5⟩; have HK := Lib.hid (Kept.trans HK.out hk5 (fun _ _ h => h)); clear hk5)
    | fail)
  rw [rounds_succ]
  go_wp2_with (first
    | (go_at_call 65; (first | with_reducible refine (M0 _).mono ?_ | with_reducible refine (M1 _).mono ?_ | with_reducible refine (M2 _).mono ?_ | with_reducible refine (M3 _).mono ?_ | with_reducible refine (M4 _).mono ?_ | with_reducible refine (M5 _).mono ?_ | with_reducible refine (M6 _).mono ?_); rintro e w5 ⟨rfl, hk5⟩; have HK := Lib.hid (Kept.trans HK.out hk5 (fun _ _ h => h)); clear hk5)
    | (go_at_call 58; (first | with_reducible refine (T0 _).mono ?_ | with_reducible refine (T1 _).mono ?_ | with_reducible refine (T2 _).mono ?_ | with_reducible refine (T3 _).mono ?_ | with_reducible refine (T4 _).mono ?_ | with_reducible refine (T6 _).mono ?_); rintro e w5 ⟨rfl, hk5⟩; have HK := Lib.hid (Kept.trans HK.out hk5 (fun _ _ h => h)); clear hk5)
    | fail)
  rw [rounds_succ]
  go_wp2_with (first
    | (go_at_call 65; (first | with_reducible refine (M0 _).mono ?_ | with_reducible refine (M1 _).mono ?_ | with_reducible refine (M2 _).mono ?_ | with_reducible refine (M3 _).mono ?_ | with_reducible refine (M4 _).mono ?_ | with_reducible refine (M5 _).mono ?_ | with_reducible refine (M6 _).mono ?_); rintro e w5 ⟨rfl, hk5⟩; have HK := Lib.hid (Kept.trans HK.out hk5 (fun _ _ h => h)); clear hk5)
    | (go_at_call 58; (first | with_reducible refine (T0 _).mono ?_ | with_reducible refine (T1 _).mono ?_ | with_reducible refine (T2 _).mono ?_ | with_reducible refine (T3 _).mono ?_ | with_reducible refine (T4 _).mono ?_ | with_reducible refine (T6 _).mono ?_); rintro e w5 ⟨rfl, hk5⟩; have HK := Lib.hid (Kept.trans HK.out hk5 (fun _ _ h => h)); clear hk5)
    | fail)
  rw [rounds_succ]
  go_wp2_with (first
    | (go_at_call 65; (first | with_reducible refine (M0 _).mono ?_ | with_reducible refine (M1 _).mono ?_ | with_reducible refine (M2 _).mono ?_ | with_reducible refine (M3 _).mono ?_ | with_reducible refine (M4 _).mono ?_ | with_reducible refine (M5 _).mono ?_ | with_reducible refine (M6 _).mono ?_); rintro e w5 ⟨rfl, hk5⟩; have HK := Lib.hid (Kept.trans HK.out hk5 (fun _ _ h => h)); clear hk5)
    | (go_at_call 58; (first | with_reducible refine (T0 _).mono ?_ | with_reducible refine (T1 _).mono ?_ | with_reducible refine (T2 _).mono ?_ | with_reducible refine (T3 _).mono ?_ | with_reducible refine (T4 _).mono ?_ | with_reducible refine (T6 _).mono ?_); rintro e w5 ⟨rfl, hk5⟩; have HK := Lib.hid (Kept.trans HK.out hk5 (fun _ _ h => h)); clear hk5)
    | fail)
  rw [rounds_succ]
  go_wp2_with fail
  go_ret2
  exact ⟨rfl, HK.out⟩
end
end Go.Proofs.YtlagnebgoclaeaaGreatDoor

namespace Go.Proofs.YtlagnebgoclaeaaGreatDoor
open Go.RowKit Ver Evr Span Dep

theorem rof_walk (va : Value) (xs : List ByteArray) (w : World) (ha : StrS w va xs) (hsz : ∀ u ∈ xs, u.size ≤ 1000000) :
    Calls Tryz.prog 54 #[va] w fun e w' => e = .returned (ofV (ofD (textsB xs))) ∧ Kept (fun _ => False) w w' := by
  obtain ⟨ao, cp, rfl, hc⟩ := ha
  match xs, hc, hsz with
  | [x], hc, hsz =>
    obtain ⟨a, rfl, e2, e3⟩ := hc 0 x rfl
    rw [add_zero'] at e2
    have hM := fun W (_ : Kept (fun _ => False) w W) => may6r_walk x 0 (by decide) 0 ⟨#[]⟩ ⟨#[]⟩ (by decide) (by decide) W
    rw [show mayD (dD x 0 0 ⟨#[]⟩ ⟨#[]⟩) = nameD x.data.toList by rw [may_any]; show (nameD x.data.toList && true) = _; rw [Bool.and_true]] at hM
    have hO : ofD (textsB [x]) = if nameD x.data.toList = true then some ⟨x.data.toList, 0, zeroD⟩ else none := of_one _
    rw [hO]
    cases hn : nameD x.data.toList with
    | false =>
      rw [hn] at hM
      exact rof_one_not a cp x w e2 e3 hM
    | true =>
      rw [hn] at hM
      exact rof_one_yes a cp x w e2 e3 hM
  | [x, y, z], hc, hsz =>
    obtain ⟨a, rfl, e2, e3⟩ := hc 0 x rfl
    obtain ⟨a1, f1, f2, _⟩ := hc 1 y rfl
    obtain ⟨a2, g1, g2, _⟩ := hc 2 z rfl
    obtain rfl := Option.some.inj f1
    obtain rfl := Option.some.inj g1
    rw [add_zero'] at e2
    rw [(add_lits a).1] at f2
    rw [(add_lits a).2] at g2
    have hz := hsz z (by simp)
    obtain ⟨n, v, r, er, hp, hpc⟩ := parse_parts z.data.toList
    have hE := fun W (_ : Kept (fun _ => False) w W) => parse_walk z W hz
    rw [hp] at hE
    obtain ⟨op, ok, ho⟩ : ∃ op ok, parseL y.data.toList = (op, ok) := ⟨_, _, rfl⟩
    have hS := fun W (_ : Kept (fun _ => False) w W) => parse4 y W
    rw [ho] at hS
    have hop : op < 256 := by
      have : op = (parseL y.data.toList).1 := by rw [ho]
      rw [this]
      unfold parseL
      repeat' split
      all_goals decide
    have hO : ofD (textsB [x, y, z]) = threeD x.data.toList y.data.toList z.data.toList := of_three _ _ _
    rw [hO]
    unfold threeD
    rw [ho]
    rcases hpc with ⟨rfl, hps⟩ | ⟨rfl, rfl, rfl, rfl, hps⟩
    · have hvr := parse_sizes hps
      have hM := fun W (_ : Kept (fun _ => False) w W) => may6r_walk x op hop n v r (by omega) (by omega) W
      rw [hps]
      cases ok with
      | false => exact rof_three_bad a cp x y z op false n v r 0 w e2 f2 g2 e3 hS hE (.inl rfl)
      | true =>
        by_cases h0 : op = 0
        · subst h0
          simp only
          rw [if_neg (fun h => by have := h.2; rw [may_any, ver_some hps, Bool.and_false] at this; cases this)]
          exact rof_three_bad a cp x y z 0 true n v r 0 w e2 f2 g2 e3 hS hE (.inr (.inl ⟨rfl, by rfl⟩))
        · have h1 : ((op : Int) == 0) = false := by simp; exact h0
          cases hn : mayD (dD x op n v r) with
          | false =>
            rw [hn] at hM
            simp only
            rw [if_neg (fun h => Bool.noConfusion (hn.symm.trans h.2))]
            exact rof_three_not a cp x y z op true n v r 0 w e2 f2 g2 e3 hS hE rfl h1 rfl hM
          | true =>
            rw [hn] at hM
            simp only
            rw [if_pos ⟨trivial, hn⟩, of_back]
            exact rof_three_yes a cp x y z op true n v r 0 w e2 f2 g2 e3 hS hE rfl h1 rfl hM
    · rw [hps]
      have hb : ok = false ∨ (ok = true ∧ ((op : Int) == 0) = true) ∨ (ok = true ∧ ((op : Int) == 0) = false ∧ ((4 : Int) != 0) = true) := by
        cases ok with
        | false => exact .inl rfl
        | true =>
          cases h : ((op : Int) == 0) with
          | true => exact .inr (.inl ⟨rfl, rfl⟩)
          | false => exact .inr (.inr ⟨rfl, rfl, rfl⟩)
      exact rof_three_bad a cp x y z op ok 0 ⟨#[]⟩ ⟨#[]⟩ 4 w e2 f2 g2 e3 hS hE hb
  | [], _, _ => exact rof_none ao 0 cp (by decide) (by decide) w
  | [x, y], _, _ => exact rof_none ao 2 cp (by decide) (by decide) w
  | x :: y :: z :: u :: l, _, _ =>
    have hO : ofD (textsB (x :: y :: z :: u :: l)) = none := of_other _ (by simp) (by simp)
    rw [hO]
    exact rof_none ao _ cp (by simp) (by simp) w

theorem one_cell {w : World} {g : Nat} {e : TypeId} {x : Value} (hb : Box w g e #[x]) : ∀ j u, [x][j]? = some u → w.cell? ((⟨g, 0, none⟩ : Addr).add j) = some u := by
  intro j u hj
  have e1 : (⟨g, 0, none⟩ : Addr).add j = ⟨g, j, none⟩ := by
    unfold Addr.add
    cases j <;> simp
  rw [e1, hb.cell]
  simpa using hj
/-- One word more: what is cut so far, and what is left. -/
theorem cut_more {l : List UInt8} {at' i : Nat} (ha : at' ≤ i) (hno : ∀ b ∈ (l.drop at').take (i - at'), b ≠ 32) (hi : l[i]? = some 32) : splitD (l.drop at') = (l.drop at').take (i - at') :: splitD (l.drop (i + 1)) := by
  have e : l.drop at' = (l.drop at').take (i - at') ++ 32 :: l.drop (i + 1) := by
    have h1 : (l.drop at').drop (i - at') = l.drop i := by rw [List.drop_drop]; congr 1; omega
    have h2 : l.drop i = 32 :: l.drop (i + 1) := by
      have hlt : i < l.length := (List.getElem?_eq_some_iff.1 hi).1
      rw [List.drop_eq_getElem_cons hlt]
      congr 1
      rw [List.getElem?_eq_getElem hlt] at hi
      exact Option.some.inj hi
    rw [← h2, ← h1, List.take_append_drop]
  have := split_word ((l.drop at').take (i - at')) (l.drop (i + 1)) hno
  rw [← e] at this
  exact this
theorem no_more {l : List UInt8} {at' i : Nat} {b : UInt8} (ha : at' ≤ i) (hno : ∀ b ∈ (l.drop at').take (i - at'), b ≠ 32) (hi : l[i]? = some b) (hb : b ≠ 32) : ∀ c ∈ (l.drop at').take (i + 1 - at'), c ≠ 32 := by
  intro c hc
  rw [show i + 1 - at' = i - at' + 1 by omega, List.take_add_one, List.mem_append] at hc
  rcases hc with hc | hc
  · exact hno c hc
  · rw [List.getElem?_drop, show at' + (i - at') = i by omega, hi] at hc
    have : c = b := by simpa using hc
    rw [this]; exact hb
end Go.Proofs.YtlagnebgoclaeaaGreatDoor
