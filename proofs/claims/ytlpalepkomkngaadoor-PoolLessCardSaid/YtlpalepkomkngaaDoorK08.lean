/-
  The walks over the program's own text of layer 6, and over the document's answer: which dependencies may be. Conditions: the array of words that are no names lies as the program's text lays it. The program's table of what is asked of the parts of a Kind (layer 9), and what is asked of one part. Conditions: the table lies as the program's text lays it. What a row lists of a package-level table (numbers, texts, bools, arrays and structs of these) is what the table's cells hold. From what a row of layer 9 lists of the program's own tables to what the walks ask of them. From a law's walk to its row, where the row lists package-level variables: every argument reads behind the call as it read before. Conditions: as each theorem states.
-/
import Derived.Test.YtlpalepkomkngaaDoorK06
import Derived.Test.YtlpalepkomkngaaDoorK07
import Derived.Test.YtlpalepkomkngaaDoorK04
import Derived.Test.YtlpalepkomkngaaDoorK05
import Derived.OpenShut
import Derived.ChangeArms
import Derived.LaidSub
import Derived.Lib.LaidTab
import Derived.FnData
import Derived.Test.YtlpalepkomkngaaDoorK01
import Derived.MakeChecks
import Derived.LaidMore
import Derived.LaidLaws
import Derived.Lay
import Derived.LaidOnce
import Derived.Handed
import Derived.Stop.Joined
namespace Go.Proofs.YtlpalepkomkngaaDoor
open Go.RowKit Ver Evr Span Dep

/-- A dependency as the program has it. -/
abbrev dD (nm : ByteArray) (o : Nat) (n : Int) (v r : ByteArray) : D := ⟨nm.data.toList, o, evrE n v r⟩
theorem same_kept {P : Program} {f : FuncId} {args : Array Value} {w : World} {v : Value} (h : Calls P f args w fun e w' => e = .returned v ∧ w' = w) : Calls P f args w fun e w' => e = .returned v ∧ Kept (fun _ => False) w w' :=
  h.mono fun _ _ ⟨h1, h2⟩ => ⟨h1, by rw [h2]; exact Kept.refl _ _⟩
theorem may_name {nm : ByteArray} {o : Nat} {n : Int} {v r : ByteArray} (h : nameD nm.data.toList = false) : mayD (dD nm o n v r) = false := by unfold mayD; simp [h]
theorem may_op0 {nm : ByteArray} {o : Nat} {n : Int} {v r : ByteArray} (h : mayO o = false) : mayD (dD nm o n v r) = false := by unfold mayD; simp [h]
theorem may_none {nm : ByteArray} {n : Int} {v r : ByteArray} (h : nameD nm.data.toList = true) : mayD (dD nm 0 n v r) = noE (evrE n v r) := by rw [may_any, h, Bool.true_and]
theorem may_some {nm : ByteArray} {o : Nat} {n : Int} {v r : ByteArray} (h : nameD nm.data.toList = true) (ho : mayO o = true) (h0 : o ≠ 0) : mayD (dD nm o n v r) = (!fileD nm.data.toList && mayE (evrE n v r) true) := by rw [may_op h0, h, ho, Bool.true_and, Bool.true_and]
theorem noE_cases (n : Int) (v r : ByteArray) : (n = 0 ∧ v = ⟨#[]⟩ ∧ r = ⟨#[]⟩ ∧ noE (evrE n v r) = true) ∨ (noE (evrE n v r) = false ∧ (n ≠ 0 ∨ (n = 0 ∧ v ≠ ⟨#[]⟩) ∨ (n = 0 ∧ v = ⟨#[]⟩ ∧ r ≠ ⟨#[]⟩))) := by
  by_cases h1 : n = 0
  · by_cases h2 : v = ⟨#[]⟩
    · by_cases h3 : r = ⟨#[]⟩
      · exact .inl ⟨h1, h2, h3, by subst h1; subst h2; subst h3; rfl⟩
      · exact .inr ⟨by unfold noE evrE; simp; intro _ _ h; exact h3 (ByteArray.ext h), .inr (.inr ⟨h1, h2, h3⟩)⟩
    · exact .inr ⟨by unfold noE evrE; simp; intro _ h; exact absurd (ByteArray.ext h) h2, .inr (.inl ⟨h1, h2⟩)⟩
  · exact .inr ⟨by unfold noE evrE; simp [h1], .inl h1⟩

theorem isEmpty_ne {r : ByteArray} (h : r ≠ ⟨#[]⟩) : r.toList.isEmpty = false := by
  cases hr : r.toList with
  | nil => exact absurd hr (text_ne h).2
  | cons _ _ => rfl
set_option maxRecDepth 100000 in
set_option maxHeartbeats 2000000 in
theorem may6p_A (nm : ByteArray) (o : Nat) (n : Int) (v r : ByteArray) (w : World) (hN : (∀ W, Kept (fun _ => False) w W → Calls Tryd.prog 37 #[.string nm] W fun e w' => e = .returned (.bool false) ∧ Kept (fun _ => False) W w')) : Calls Tryd.prog 42 #[.agg #[.string nm, .int .u8 (o : Int), .int .i64 n, .string v, .string r]] w fun e w' => e = .returned (.bool false) ∧ Kept (fun _ => False) w w' := by
    have HA := Lib.hid (Box.made w 71 #[.string nm, .int .u8 (o : Int), .int .i64 n, .string v, .string r])
    have HK := Lib.hid ((Kept.refl (fun _ => False) w).alloc (.cells #[.string nm, .int .u8 (o : Int), .int .i64 n, .string v, .string r] 71))
    go_enter Tryd.func42, Tryd.ntmps42
    go_wp2_with (first
      | (go_at_call 37; with_reducible refine (hN _ HK.out).mono ?_; rintro e w5 ⟨rfl, hk5⟩; have HA := Lib.hid (hk5.box HA.out (fun h => h)); have HK := Lib.hid (Kept.trans HK.out hk5 (fun _ _ h => h)); have ax0 := HA.out.cell 0; have ax1 := HA.out.cell 1; have ax2 := HA.out.cell 2; have ax3 := HA.out.cell 3; have ax4 := HA.out.cell 4; clear hk5)
      | fail)
    go_ret
    exact ⟨rfl, HK.out⟩
set_option maxRecDepth 100000 in
set_option maxHeartbeats 2000000 in
theorem may6p_B (nm : ByteArray) (o : Nat) (n : Int) (v r : ByteArray) (w : World) (hN : (∀ W, Kept (fun _ => False) w W → Calls Tryd.prog 37 #[.string nm] W fun e w' => e = .returned (.bool true) ∧ Kept (fun _ => False) W w')) (hS : (∀ W, Kept (fun _ => False) w W → Calls Tryd.prog 53 #[.int .u8 (o : Int)] W fun e w' => e = .returned (.bool false) ∧ Kept (fun _ => False) W w')) : Calls Tryd.prog 42 #[.agg #[.string nm, .int .u8 (o : Int), .int .i64 n, .string v, .string r]] w fun e w' => e = .returned (.bool false) ∧ Kept (fun _ => False) w w' := by
    have HA := Lib.hid (Box.made w 71 #[.string nm, .int .u8 (o : Int), .int .i64 n, .string v, .string r])
    have HK := Lib.hid ((Kept.refl (fun _ => False) w).alloc (.cells #[.string nm, .int .u8 (o : Int), .int .i64 n, .string v, .string r] 71))
    go_enter Tryd.func42, Tryd.ntmps42
    go_wp2_with (first
      | (go_at_call 37; with_reducible refine (hN _ HK.out).mono ?_; rintro e w5 ⟨rfl, hk5⟩; have HA := Lib.hid (hk5.box HA.out (fun h => h)); have HK := Lib.hid (Kept.trans HK.out hk5 (fun _ _ h => h)); have ax0 := HA.out.cell 0; have ax1 := HA.out.cell 1; have ax2 := HA.out.cell 2; have ax3 := HA.out.cell 3; have ax4 := HA.out.cell 4; clear hk5)
      | (go_at_call 53; with_reducible refine (hS _ HK.out).mono ?_; rintro e w5 ⟨rfl, hk5⟩; have HA := Lib.hid (hk5.box HA.out (fun h => h)); have HK := Lib.hid (Kept.trans HK.out hk5 (fun _ _ h => h)); have ax0 := HA.out.cell 0; have ax1 := HA.out.cell 1; have ax2 := HA.out.cell 2; have ax3 := HA.out.cell 3; have ax4 := HA.out.cell 4; clear hk5)
      | fail)
    go_ret
    exact ⟨rfl, HK.out⟩
set_option maxRecDepth 100000 in
set_option maxHeartbeats 2000000 in
theorem may6p_C0 (nm : ByteArray) (w : World) (hN : (∀ W, Kept (fun _ => False) w W → Calls Tryd.prog 37 #[.string nm] W fun e w' => e = .returned (.bool true) ∧ Kept (fun _ => False) W w')) (hS : (∀ W, Kept (fun _ => False) w W → Calls Tryd.prog 53 #[.int .u8 0] W fun e w' => e = .returned (.bool true) ∧ Kept (fun _ => False) W w')) : Calls Tryd.prog 42 #[.agg #[.string nm, .int .u8 0, .int .i64 0, .string ⟨#[]⟩, .string ⟨#[]⟩]] w fun e w' => e = .returned (.bool true) ∧ Kept (fun _ => False) w w' := by
    have HA := Lib.hid (Box.made w 71 #[.string nm, .int .u8 0, .int .i64 0, .string ⟨#[]⟩, .string ⟨#[]⟩])
    have HK := Lib.hid ((Kept.refl (fun _ => False) w).alloc (.cells #[.string nm, .int .u8 0, .int .i64 0, .string ⟨#[]⟩, .string ⟨#[]⟩] 71))
    go_enter Tryd.func42, Tryd.ntmps42
    go_wp2_with (first
      | (go_at_call 37; with_reducible refine (hN _ HK.out).mono ?_; rintro e w5 ⟨rfl, hk5⟩; have HA := Lib.hid (hk5.box HA.out (fun h => h)); have HK := Lib.hid (Kept.trans HK.out hk5 (fun _ _ h => h)); have ax0 := HA.out.cell 0; have ax1 := HA.out.cell 1; have ax2 := HA.out.cell 2; have ax3 := HA.out.cell 3; have ax4 := HA.out.cell 4; clear hk5)
      | (go_at_call 53; with_reducible refine (hS _ HK.out).mono ?_; rintro e w5 ⟨rfl, hk5⟩; have HA := Lib.hid (hk5.box HA.out (fun h => h)); have HK := Lib.hid (Kept.trans HK.out hk5 (fun _ _ h => h)); have ax0 := HA.out.cell 0; have ax1 := HA.out.cell 1; have ax2 := HA.out.cell 2; have ax3 := HA.out.cell 3; have ax4 := HA.out.cell 4; clear hk5)
      | fail)
    go_ret
    exact ⟨rfl, HK.out⟩
set_option maxRecDepth 100000 in
set_option maxHeartbeats 2000000 in
theorem may6p_C1 (nm : ByteArray) (n : Int) (v r : ByteArray) (w : World) (hN : (∀ W, Kept (fun _ => False) w W → Calls Tryd.prog 37 #[.string nm] W fun e w' => e = .returned (.bool true) ∧ Kept (fun _ => False) W w')) (hS : (∀ W, Kept (fun _ => False) w W → Calls Tryd.prog 53 #[.int .u8 0] W fun e w' => e = .returned (.bool true) ∧ Kept (fun _ => False) W w')) (hn : (n == 0) = false) : Calls Tryd.prog 42 #[.agg #[.string nm, .int .u8 0, .int .i64 n, .string v, .string r]] w fun e w' => e = .returned (.bool false) ∧ Kept (fun _ => False) w w' := by
    have HA := Lib.hid (Box.made w 71 #[.string nm, .int .u8 0, .int .i64 n, .string v, .string r])
    have HK := Lib.hid ((Kept.refl (fun _ => False) w).alloc (.cells #[.string nm, .int .u8 0, .int .i64 n, .string v, .string r] 71))
    go_enter Tryd.func42, Tryd.ntmps42
    go_wp2_with (first
      | (go_at_call 37; with_reducible refine (hN _ HK.out).mono ?_; rintro e w5 ⟨rfl, hk5⟩; have HA := Lib.hid (hk5.box HA.out (fun h => h)); have HK := Lib.hid (Kept.trans HK.out hk5 (fun _ _ h => h)); have ax0 := HA.out.cell 0; have ax1 := HA.out.cell 1; have ax2 := HA.out.cell 2; have ax3 := HA.out.cell 3; have ax4 := HA.out.cell 4; clear hk5)
      | (go_at_call 53; with_reducible refine (hS _ HK.out).mono ?_; rintro e w5 ⟨rfl, hk5⟩; have HA := Lib.hid (hk5.box HA.out (fun h => h)); have HK := Lib.hid (Kept.trans HK.out hk5 (fun _ _ h => h)); have ax0 := HA.out.cell 0; have ax1 := HA.out.cell 1; have ax2 := HA.out.cell 2; have ax3 := HA.out.cell 3; have ax4 := HA.out.cell 4; clear hk5)
      | fail)
    go_ret
    exact ⟨rfl, HK.out⟩
set_option maxRecDepth 100000 in
set_option maxHeartbeats 2000000 in
theorem may6p_C2 (nm : ByteArray) (v r : ByteArray) (w : World) (hN : (∀ W, Kept (fun _ => False) w W → Calls Tryd.prog 37 #[.string nm] W fun e w' => e = .returned (.bool true) ∧ Kept (fun _ => False) W w')) (hS : (∀ W, Kept (fun _ => False) w W → Calls Tryd.prog 53 #[.int .u8 0] W fun e w' => e = .returned (.bool true) ∧ Kept (fun _ => False) W w')) (hn : v ≠ ⟨#[]⟩) : Calls Tryd.prog 42 #[.agg #[.string nm, .int .u8 0, .int .i64 0, .string v, .string r]] w fun e w' => e = .returned (.bool false) ∧ Kept (fun _ => False) w w' := by
    obtain ⟨g1, g2⟩ := text_ne hn
    have g3 := isEmpty_ne hn
    have HA := Lib.hid (Box.made w 71 #[.string nm, .int .u8 0, .int .i64 0, .string v, .string r])
    have HK := Lib.hid ((Kept.refl (fun _ => False) w).alloc (.cells #[.string nm, .int .u8 0, .int .i64 0, .string v, .string r] 71))
    go_enter Tryd.func42, Tryd.ntmps42
    go_wp2_with (first
      | (go_at_call 37; with_reducible refine (hN _ HK.out).mono ?_; rintro e w5 ⟨rfl, hk5⟩; have HA := Lib.hid (hk5.box HA.out (fun h => h)); have HK := Lib.hid (Kept.trans HK.out hk5 (fun _ _ h => h)); have ax0 := HA.out.cell 0; have ax1 := HA.out.cell 1; have ax2 := HA.out.cell 2; have ax3 := HA.out.cell 3; have ax4 := HA.out.cell 4; clear hk5)
      | (go_at_call 53; with_reducible refine (hS _ HK.out).mono ?_; rintro e w5 ⟨rfl, hk5⟩; have HA := Lib.hid (hk5.box HA.out (fun h => h)); have HK := Lib.hid (Kept.trans HK.out hk5 (fun _ _ h => h)); have ax0 := HA.out.cell 0; have ax1 := HA.out.cell 1; have ax2 := HA.out.cell 2; have ax3 := HA.out.cell 3; have ax4 := HA.out.cell 4; clear hk5)
      | fail)
    go_ret
    exact ⟨rfl, HK.out⟩
set_option maxRecDepth 100000 in
set_option maxHeartbeats 2000000 in
theorem may6p_C3 (nm : ByteArray) (r : ByteArray) (w : World) (hN : (∀ W, Kept (fun _ => False) w W → Calls Tryd.prog 37 #[.string nm] W fun e w' => e = .returned (.bool true) ∧ Kept (fun _ => False) W w')) (hS : (∀ W, Kept (fun _ => False) w W → Calls Tryd.prog 53 #[.int .u8 0] W fun e w' => e = .returned (.bool true) ∧ Kept (fun _ => False) W w')) (hn : r ≠ ⟨#[]⟩) : Calls Tryd.prog 42 #[.agg #[.string nm, .int .u8 0, .int .i64 0, .string ⟨#[]⟩, .string r]] w fun e w' => e = .returned (.bool false) ∧ Kept (fun _ => False) w w' := by
    obtain ⟨g1, g2⟩ := text_ne hn
    have g3 := isEmpty_ne hn
    have HA := Lib.hid (Box.made w 71 #[.string nm, .int .u8 0, .int .i64 0, .string ⟨#[]⟩, .string r])
    have HK := Lib.hid ((Kept.refl (fun _ => False) w).alloc (.cells #[.string nm, .int .u8 0, .int .i64 0, .string ⟨#[]⟩, .string r] 71))
    go_enter Tryd.func42, Tryd.ntmps42
    go_wp2_with (first
      | (go_at_call 37; with_reducible refine (hN _ HK.out).mono ?_; rintro e w5 ⟨rfl, hk5⟩; have HA := Lib.hid (hk5.box HA.out (fun h => h)); have HK := Lib.hid (Kept.trans HK.out hk5 (fun _ _ h => h)); have ax0 := HA.out.cell 0; have ax1 := HA.out.cell 1; have ax2 := HA.out.cell 2; have ax3 := HA.out.cell 3; have ax4 := HA.out.cell 4; clear hk5)
      | (go_at_call 53; with_reducible refine (hS _ HK.out).mono ?_; rintro e w5 ⟨rfl, hk5⟩; have HA := Lib.hid (hk5.box HA.out (fun h => h)); have HK := Lib.hid (Kept.trans HK.out hk5 (fun _ _ h => h)); have ax0 := HA.out.cell 0; have ax1 := HA.out.cell 1; have ax2 := HA.out.cell 2; have ax3 := HA.out.cell 3; have ax4 := HA.out.cell 4; clear hk5)
      | fail)
    go_ret
    exact ⟨rfl, HK.out⟩
set_option maxRecDepth 100000 in
set_option maxHeartbeats 2000000 in
theorem may6p_D (nm : ByteArray) (o : Nat) (n : Int) (v r : ByteArray) (w : World) (h0 : ((o : Int) == 0) = false) (hN : (∀ W, Kept (fun _ => False) w W → Calls Tryd.prog 37 #[.string nm] W fun e w' => e = .returned (.bool true) ∧ Kept (fun _ => False) W w')) (hS : (∀ W, Kept (fun _ => False) w W → Calls Tryd.prog 53 #[.int .u8 (o : Int)] W fun e w' => e = .returned (.bool true) ∧ Kept (fun _ => False) W w')) (hF : (∀ W, Kept (fun _ => False) w W → Calls Tryd.prog 38 #[.string nm] W fun e w' => e = .returned (.bool true) ∧ Kept (fun _ => False) W w')) : Calls Tryd.prog 42 #[.agg #[.string nm, .int .u8 (o : Int), .int .i64 n, .string v, .string r]] w fun e w' => e = .returned (.bool false) ∧ Kept (fun _ => False) w w' := by
    have HA := Lib.hid (Box.made w 71 #[.string nm, .int .u8 (o : Int), .int .i64 n, .string v, .string r])
    have HK := Lib.hid ((Kept.refl (fun _ => False) w).alloc (.cells #[.string nm, .int .u8 (o : Int), .int .i64 n, .string v, .string r] 71))
    go_enter Tryd.func42, Tryd.ntmps42
    go_wp2_with (first
      | (go_at_call 37; with_reducible refine (hN _ HK.out).mono ?_; rintro e w5 ⟨rfl, hk5⟩; have HA := Lib.hid (hk5.box HA.out (fun h => h)); have HK := Lib.hid (Kept.trans HK.out hk5 (fun _ _ h => h)); have ax0 := HA.out.cell 0; have ax1 := HA.out.cell 1; have ax2 := HA.out.cell 2; have ax3 := HA.out.cell 3; have ax4 := HA.out.cell 4; clear hk5)
      | (go_at_call 53; with_reducible refine (hS _ HK.out).mono ?_; rintro e w5 ⟨rfl, hk5⟩; have HA := Lib.hid (hk5.box HA.out (fun h => h)); have HK := Lib.hid (Kept.trans HK.out hk5 (fun _ _ h => h)); have ax0 := HA.out.cell 0; have ax1 := HA.out.cell 1; have ax2 := HA.out.cell 2; have ax3 := HA.out.cell 3; have ax4 := HA.out.cell 4; clear hk5)
      | (go_at_call 38; with_reducible refine (hF _ HK.out).mono ?_; rintro e w5 ⟨rfl, hk5⟩; have HA := Lib.hid (hk5.box HA.out (fun h => h)); have HK := Lib.hid (Kept.trans HK.out hk5 (fun _ _ h => h)); have ax0 := HA.out.cell 0; have ax1 := HA.out.cell 1; have ax2 := HA.out.cell 2; have ax3 := HA.out.cell 3; have ax4 := HA.out.cell 4; clear hk5)
      | fail)
    go_ret
    exact ⟨rfl, HK.out⟩
set_option maxRecDepth 100000 in
set_option maxHeartbeats 2000000 in
theorem may6p_E (nm : ByteArray) (o : Nat) (n : Int) (v r : ByteArray) (w : World) (h0 : ((o : Int) == 0) = false) (hN : (∀ W, Kept (fun _ => False) w W → Calls Tryd.prog 37 #[.string nm] W fun e w' => e = .returned (.bool true) ∧ Kept (fun _ => False) W w')) (hS : (∀ W, Kept (fun _ => False) w W → Calls Tryd.prog 53 #[.int .u8 (o : Int)] W fun e w' => e = .returned (.bool true) ∧ Kept (fun _ => False) W w')) (x : Bool) (hF : (∀ W, Kept (fun _ => False) w W → Calls Tryd.prog 38 #[.string nm] W fun e w' => e = .returned (.bool false) ∧ Kept (fun _ => False) W w')) (hE : (∀ W, Kept (fun _ => False) w W → Calls Tryd.prog 39 #[.agg #[.int .i64 n, .string v, .string r], .bool true] W fun e w' => e = .returned (.bool x) ∧ Kept (fun _ => False) W w')) : Calls Tryd.prog 42 #[.agg #[.string nm, .int .u8 (o : Int), .int .i64 n, .string v, .string r]] w fun e w' => e = .returned (.bool x) ∧ Kept (fun _ => False) w w' := by
    have HA := Lib.hid (Box.made w 71 #[.string nm, .int .u8 (o : Int), .int .i64 n, .string v, .string r])
    have HK := Lib.hid ((Kept.refl (fun _ => False) w).alloc (.cells #[.string nm, .int .u8 (o : Int), .int .i64 n, .string v, .string r] 71))
    go_enter Tryd.func42, Tryd.ntmps42
    go_wp2_with (first
      | (go_at_call 37; with_reducible refine (hN _ HK.out).mono ?_; rintro e w5 ⟨rfl, hk5⟩; have HA := Lib.hid (hk5.box HA.out (fun h => h)); have HK := Lib.hid (Kept.trans HK.out hk5 (fun _ _ h => h)); have ax0 := HA.out.cell 0; have ax1 := HA.out.cell 1; have ax2 := HA.out.cell 2; have ax3 := HA.out.cell 3; have ax4 := HA.out.cell 4; clear hk5)
      | (go_at_call 53; with_reducible refine (hS _ HK.out).mono ?_; rintro e w5 ⟨rfl, hk5⟩; have HA := Lib.hid (hk5.box HA.out (fun h => h)); have HK := Lib.hid (Kept.trans HK.out hk5 (fun _ _ h => h)); have ax0 := HA.out.cell 0; have ax1 := HA.out.cell 1; have ax2 := HA.out.cell 2; have ax3 := HA.out.cell 3; have ax4 := HA.out.cell 4; clear hk5)
      | (go_at_call 38; with_reducible refine (hF _ HK.out).mono ?_; rintro e w5 ⟨rfl, hk5⟩; have HA := Lib.hid (hk5.box HA.out (fun h => h)); have HK := Lib.hid (Kept.trans HK.out hk5 (fun _ _ h => h)); have ax0 := HA.out.cell 0; have ax1 := HA.out.cell 1; have ax2 := HA.out.cell 2; have ax3 := HA.out.cell 3; have ax4 := HA.out.cell 4; clear hk5)
      | (go_at_call 39; with_reducible refine (hE _ HK.out).mono ?_; rintro e w5 ⟨rfl, hk5⟩; have HA := Lib.hid (hk5.box HA.out (fun h => h)); have HK := Lib.hid (Kept.trans HK.out hk5 (fun _ _ h => h)); have ax0 := HA.out.cell 0; have ax1 := HA.out.cell 1; have ax2 := HA.out.cell 2; have ax3 := HA.out.cell 3; have ax4 := HA.out.cell 4; clear hk5)
      | fail)
    go_ret
    exact ⟨rfl, HK.out⟩
theorem may6p_walk (nm : ByteArray) (o : Nat) (ho : o < 256) (n : Int) (v r : ByteArray) (w : World) (hW : NotW w) : Calls Tryd.prog 42 #[depV nm o n v r] w fun e w' => e = .returned (.bool (mayD (dD nm o n v r))) ∧ Kept (fun _ => False) w w' := by
  have hN : ∀ W, Kept (fun _ => False) w W → Calls Tryd.prog 37 #[.string nm] W fun e w' => e = .returned (.bool (nameD nm.data.toList)) ∧ Kept (fun _ => False) W w' := fun W hk => name_walk nm W (hW.kept hk)
  have hF : ∀ W, Kept (fun _ => False) w W → Calls Tryd.prog 38 #[.string nm] W fun e w' => e = .returned (.bool (fileD nm.data.toList)) ∧ Kept (fun _ => False) W w' := fun W hk => file_walk nm W (hW.kept hk)
  have hS : ∀ W, Kept (fun _ => False) w W → Calls Tryd.prog 53 #[.int .u8 (o : Int)] W fun e w' => e = .returned (.bool (mayO o)) ∧ Kept (fun _ => False) W w' := fun W _ => may_k o ho W
  have hE : ∀ W, Kept (fun _ => False) w W → Calls Tryd.prog 39 #[.agg #[.int .i64 n, .string v, .string r], .bool true] W fun e w' => e = .returned (.bool (mayE (evrE n v r) true)) ∧ Kept (fun _ => False) W w' := fun W _ => mayK_walk n v r true W
  cases hx : nameD nm.data.toList with
  | false =>
    rw [hx] at hN
    rw [may_name hx]
    exact may6p_A nm o n v r w hN
  | true =>
    rw [hx] at hN
    cases hy : mayO o with
    | false =>
      rw [hy] at hS
      rw [may_op0 hy]
      exact may6p_B nm o n v r w hN hS
    | true =>
      rw [hy] at hS
      by_cases h0 : o = 0
      · subst h0
        rw [may_none hx]
        rcases noE_cases n v r with ⟨rfl, rfl, rfl, h⟩ | ⟨h, h1 | ⟨rfl, h1⟩ | ⟨rfl, rfl, h1⟩⟩
        · rw [h]; exact may6p_C0 nm w hN hS
        · rw [h]; exact may6p_C1 nm n v r w hN hS (by simpa using h1)
        · rw [h]; exact may6p_C2 nm v r w hN hS h1
        · rw [h]; exact may6p_C3 nm r w hN hS h1
      · rw [may_some hx hy h0]
        cases hz : fileD nm.data.toList with
        | true =>
          rw [hz] at hF
          exact may6p_D nm o n v r w (by simp; exact h0) hN hS hF
        | false =>
          rw [hz] at hF
          exact may6p_E nm o n v r w (by simp; exact h0) hN hS _ hF hE
end Go.Proofs.YtlpalepkomkngaaDoor

namespace Go.Proofs.YtlpalepkomkngaaDoor
open Go.RowKit Ver Evr Span Dep Rich

/-- What the program's May (layer 6) answers, in worlds that keep what w0 has. -/
def MayP9 (w0 : World) : Prop := ∀ (d : Dep.D) (w : World), d.op < 256 → Kept (fun _ => False) w0 w →
  Calls Tryd.prog 42 #[.agg #[.string ⟨d.name.toArray⟩, .int .u8 (d.op : Int), .int .i64 d.evr.epoch, .string ⟨d.evr.ver.toArray⟩, .string ⟨d.evr.rel.toArray⟩]] w fun e w' => e = .returned (.bool (Dep.mayD d)) ∧ Kept (fun _ => False) w w'
theorem mayP9_of {w0 : World} (hW : NotW w0) : MayP9 w0 := by
  intro d w ho hk
  obtain ⟨n, o, ⟨ep, v, r⟩⟩ := d
  exact may6p_walk ⟨n.toArray⟩ o ho ep ⟨v.toArray⟩ ⟨r.toArray⟩ w (hW.kept hk)
theorem MayP9.on {w0 w : World} (h : MayP9 w0) (hk : Kept (fun _ => False) w0 w) : MayP9 w := fun d W h1 h2 => h d W h1 (hk.trans h2 (fun _ _ h => h))
theorem dep_zero9 (d : Dep.D) (W : World) : (binOp .eql 71 (.agg #[.string ⟨d.name.toArray⟩, .int .u8 (d.op : Int), .int .i64 d.evr.epoch, .string ⟨d.evr.ver.toArray⟩, .string ⟨d.evr.rel.toArray⟩]) (.agg #[.string ⟨#[]⟩, .int .u8 0, .int .i64 0, .string ⟨#[]⟩, .string ⟨#[]⟩])).run Tryd.prog W = .ok (.bool (noD d)) W := by
  obtain ⟨n, o, ⟨e, v, r⟩⟩ := d
  simp [go_sem, noD, Dep.noE]
  by_cases h1 : n = []
  · by_cases h2 : o = 0
    · by_cases h3 : e = 0
      · by_cases h4 : v = []
        · by_cases h5 : r = [] <;> simp [h1, h2, h3, h4, h5]
        · simp [h1, h2, h3, h4]
      · simp [h1, h2, h3]
    · simp [h1, h2]
  · simp [h1]
/-- The row of a Kind. -/
abbrev rowA (k : Nat) : Array Value := #[.bool (decide (k = 1)), .int .i64 (leastK k : Int), .int .i64 (mostS k : Int), .int .u8 (Rich.lastK k : Int), .bool (loneK k)]
/-- The table lies there. -/
structure TabW9 (w : World) : Prop where
  lt : 2 < w.heap.size
  c0 : ∀ k, k < 8 → w.cell? ⟨2, k * 5, none⟩ = some (.bool (decide (k = 1)))
  c1 : ∀ k, k < 8 → w.cell? ⟨2, k * 5 + 1, none⟩ = some (.int .i64 (leastK k : Int))
  c2 : ∀ k, k < 8 → w.cell? ⟨2, k * 5 + 2, none⟩ = some (.int .i64 (mostS k : Int))
  c3 : ∀ k, k < 8 → w.cell? ⟨2, k * 5 + 3, none⟩ = some (.int .u8 (Rich.lastK k : Int))
  c4 : ∀ k, k < 8 → w.cell? ⟨2, k * 5 + 4, none⟩ = some (.bool (loneK k))
theorem TabW9.kept {w w' : World} (h : TabW9 w) (k : Kept (fun _ => False) w w') : TabW9 w' :=
  ⟨Nat.lt_of_lt_of_le h.lt k.size, fun i hi => (k.cell (p := ⟨2, i * 5, none⟩) h.lt (fun h => h)).trans (h.c0 i hi), fun i hi => (k.cell (p := ⟨2, i * 5 + 1, none⟩) h.lt (fun h => h)).trans (h.c1 i hi), fun i hi => (k.cell (p := ⟨2, i * 5 + 2, none⟩) h.lt (fun h => h)).trans (h.c2 i hi), fun i hi => (k.cell (p := ⟨2, i * 5 + 3, none⟩) h.lt (fun h => h)).trans (h.c3 i hi), fun i hi => (k.cell (p := ⟨2, i * 5 + 4, none⟩) h.lt (fun h => h)).trans (h.c4 i hi)⟩
theorem rowA_big {k : Nat} (h : 7 < k) : rowA k = #[.bool false, .int .i64 0, .int .i64 0, .int .u8 0, .bool false] := by
  unfold rowA leastK mostS Rich.lastK loneK
  have g1 : k ≠ 1 := by omega
  have g2 : k ≠ 2 := by omega
  have g3 : k ≠ 3 := by omega
  have g4 : k ≠ 4 := by omega
  have g5 : k ≠ 5 := by omega
  have g6 : k ≠ 6 := by omega
  have g7 : k ≠ 7 := by omega
  simp [g1, g2, g3, g4, g5, g6, g7, h]
set_option maxRecDepth 100000 in
set_option maxHeartbeats 2000000 in
theorem rowOf_walk (k : Nat) (hk : k < 256) (w : World) (hW : TabW9 w) :
    Calls Tryd.prog 78 #[.int .u8 (k : Int)] w fun e w' => e = .returned (.agg (rowA k)) ∧ Kept (fun _ => False) w w' := by
  have hB := Box.made w 123 #[.bool false, .int .i64 0, .int .i64 0, .int .u8 0, .bool false]
  have hk0 : (0 : Int) ≤ k := by omega
  have hkA : Kept (fun _ => False) w (w.alloc (.cells #[.bool false, .int .i64 0, .int .i64 0, .int .u8 0, .bool false] 123)) := (Kept.refl _ w).alloc _
  have HK := Lib.hid hkA
  have HT := Lib.hid (hW.kept hkA)
  have HB := Lib.hid hB
  have t0 := hB.free 0
  have t1 := hB.free 1
  have t2 := hB.free 2
  have t3 := hB.free 3
  have t4 := hB.free 4
  clear hkA hW hB
  by_cases h8 : 7 < k
  · have h8' : (8 : Int) ≤ k := by omega
    have HR := Lib.hid (rowA_big h8)
    clear h8
    go_enter Tryd.func78, Tryd.ntmps78
    go_wp2_with fail
    go_returns
    exact ⟨by rw [HR.out], HK.out⟩
  · have h8' : (k : Int) < 8 := by omega
    have hk8 : k < 8 := by omega
    have d0 := HT.out.c0 k hk8
    have d1 := HT.out.c1 k hk8
    have d2 := HT.out.c2 k hk8
    have d3 := HT.out.c3 k hk8
    have d4 := HT.out.c4 k hk8
    clear h8
    go_enter Tryd.func78, Tryd.ntmps78
    go_wp2_with fail
    go_returns
    exact ⟨rfl, (Kept.refl _ w).alloc _⟩
abbrev depA (d : D) : Array Value := #[.string ⟨d.name.toArray⟩, .int .u8 (d.op : Int), .int .i64 d.evr.epoch, .string ⟨d.evr.ver.toArray⟩, .string ⟨d.evr.rel.toArray⟩]
set_option maxRecDepth 100000 in
set_option maxHeartbeats 2000000 in
theorem mayDep_walk (nd lo : Bool) (le mo : Int) (la : Nat) (d : D) (hd : d.op < 256) (w : World) (hM : MayP9 w) :
    Calls Tryd.prog 87 #[.agg #[.bool nd, .int .i64 le, .int .i64 mo, .int .u8 (la : Int), .bool lo], .agg (depA d)] w fun e w' => e = .returned (.bool (if nd = true then mayD d else noD d)) ∧ Kept (fun _ => False) w w' := by
  have hBA := (Box.made w 123 #[.bool nd, .int .i64 le, .int .i64 mo, .int .u8 (la : Int), .bool lo]).after_alloc (.cells (depA d) 71)
  have hBD := Box.made (w.alloc (.cells #[.bool nd, .int .i64 le, .int .i64 mo, .int .u8 (la : Int), .bool lo] 123)) 71 (depA d)
  simp only [World.size_alloc] at hBD
  have a0 := hBA.cell 0
  have b0 := hBD.cell 0
  have b1 := hBD.cell 1
  have b2 := hBD.cell 2
  have b3 := hBD.cell 3
  have b4 := hBD.cell 4
  have hkA : Kept (fun _ => False) w ((w.alloc (.cells #[.bool nd, .int .i64 le, .int .i64 mo, .int .u8 (la : Int), .bool lo] 123)).alloc (.cells (depA d) 71)) := ((Kept.refl _ w).alloc _).alloc _
  have HK := Lib.hid hkA
  have MC := hM d _ hd hkA
  have DZ := dep_zero9 d
  clear hBA hBD hkA hM
  cases nd with
  | true =>
    go_enter Tryd.func87, Tryd.ntmps87
    go_wp2_with (first
      | (go_at_call 42; refine MC.mono ?_; rintro e w1 ⟨rfl, hk1⟩)
      | fail)
    go_ret
    exact ⟨rfl, HK.out.trans hk1 (fun _ _ h => h)⟩
  | false =>
    clear MC
    go_enter Tryd.func87, Tryd.ntmps87
    go_wp2_with fail
    go_ret
    exact ⟨rfl, HK.out⟩
end Go.Proofs.YtlpalepkomkngaaDoor

namespace Go.Proofs.YtlpalepkomkngaaDoor

/-- Places (at, how many) that lie one behind the other, from a to z. -/
def cutsB : List (Nat × Nat) → Nat → Nat → Bool
  | [], a, z => a == z
  | (o, s) :: r, a, z => o == a && cutsB r (a + s) z
theorem cuts_join (cs : List Value) : ∀ (l : List (Nat × Nat)) (rs : List (List Value)) (a : Nat), rs.length = l.length → (∀ (i : Nat) (x : Nat × Nat) (r : List Value), l[i]? = some x → rs[i]? = some r → (cs.drop x.1).take x.2 = r) → cutsB l a cs.length = true → cs.drop a = rs.flatten
  | [], rs, a, hl, _, hc => by
    obtain rfl : rs = [] := List.eq_nil_of_length_eq_zero hl
    have : a = cs.length := by simpa [cutsB] using hc
    subst this
    simp
  | (o, s) :: l, [], a, hl, _, _ => by simp at hl
  | (o, s) :: l, r :: rs, a, hl, hx, hc => by
    simp only [cutsB, Bool.and_eq_true, beq_iff_eq] at hc
    obtain ⟨rfl, hc⟩ := hc
    have h0 : (cs.drop o).take s = r := hx 0 (o, s) r rfl rfl
    have h1 := cuts_join cs l rs (o + s) (by simpa using hl) (fun i x r hi hr => hx (i + 1) x r (by simpa using hi) (by simpa using hr)) hc
    rw [List.flatten_cons, ← h1, ← h0, ← List.drop_drop, List.take_append_drop]

/-- The cells of a table, off its reading. -/
def flatC {H : Type} (P : Program) : Nat → TypeId → DataW H → Option (List Value)
  | 0, _, _ => none
  | n + 1, t, d =>
    match P.underlying t, d with
    | some .bool, .lit (.bool b) => some [.bool b]
    | some (.int k), .lit (.int k' z) => if k = k' then some [.int k z] else none
    | some .string, .lit (.string l) => some [.string ⟨l.toArray⟩]
    | some (.array m e), .agg ds => if ds.length = m ∧ cutsB ((List.range m).map fun i => (i * P.cellsOf e, P.cellsOf e)) 0 (P.cellsOf t) = true then (ds.mapM (flatC P n e)).map List.flatten else none
    | some (.struct fs), .agg ds => if ds.length = fs.size ∧ cutsB (fs.toList.map fun f => (f.offset, P.cellsOf f.type)) 0 (P.cellsOf t) = true then ((fs.toList.zip ds).mapM fun x => flatC P n x.1.type x.2).map List.flatten else none
    | _, _ => none

section
variable {H : Type} {enc : TypeId × Value → H} {P : Program} {w : World} {base : Nat} {sp : Nat → Bool} {held : Bool}
theorem flat_cells : ∀ (n : Nat) (t : TypeId) (d : DataW H) (vs : List Value) (fuel : Nat) (cs : List Value) (p : List MemPlace), flatC P n t d = some vs → DataW.trod enc P w base sp held fuel t cs = some (d, p) → cs = vs
  | 0, t, d, vs, fuel, cs, p, h, _ => by simp [flatC] at h
  | n + 1, t, d, vs, fuel, cs, p, h, ht => by
    unfold flatC at h
    split at h
    · rename_i hu
      injection h with h
      subst h
      cases fuel with
      | zero => simp [DataW.trod] at ht
      | succ m =>
        unfold DataW.trod at ht
        rw [hu] at ht
        split at ht <;> simp_all
    · rename_i k k' z hu
      split at h
      · rename_i hk
        subst hk
        injection h with h
        subst h
        obtain ⟨z', e1, e2, _⟩ := DataW.trod_int hu ht
        injection e2 with e2 _
        injection e2 with e2
        injection e2 with _ e2
        subst e2
        exact e1
      · cases h
    · rename_i l hu
      injection h with h
      subst h
      obtain ⟨s, e1, e2, _⟩ := DataW.trod_string hu ht
      injection e2 with e2 _
      injection e2 with e2
      injection e2 with e2
      subst e2
      rw [e1]
    · rename_i m e ds hu
      split at h
      · rename_i hc
        obtain ⟨hl, hc⟩ := hc
        obtain ⟨rs, hrs, rfl⟩ := Option.map_eq_some_iff.1 h
        obtain ⟨xs, f, rfl, hx, hcs, hxl, hall⟩ := DataW.trod_array hu ht
        injection hx with hx _
        injection hx with hx
        subst hx
        have hrl := Lib.mapM_length hrs
        have := cuts_join cs ((List.range m).map fun i => (i * P.cellsOf e, P.cellsOf e)) rs 0 (by simp at hrl ⊢; omega) (fun i x r hi hr => by
          obtain ⟨j, hj, rfl⟩ : ∃ j, (List.range m)[i]? = some j ∧ (j * P.cellsOf e, P.cellsOf e) = x := by simpa using hi
          obtain ⟨him, hj⟩ := List.getElem?_eq_some_iff.1 hj
          simp at him hj
          subst hj
          have hxi := hall i him
          obtain ⟨y, hy⟩ : ∃ y, xs[i]? = some y := ⟨_, List.getElem?_eq_getElem (by omega)⟩
          rw [hy] at hxi
          obtain ⟨b, hb, hf⟩ := Lib.mapM_at hrs i y.1 (by simp [hy])
          obtain rfl := Option.some.inj (hr.symm.trans hb)
          exact flat_cells n e y.1 _ f _ y.2 hf hxi) (by rw [hcs]; exact hc)
        simpa using this
      · cases h
    · rename_i fs ds hu
      split at h
      · rename_i hc
        obtain ⟨hl, hc⟩ := hc
        obtain ⟨rs, hrs, rfl⟩ := Option.map_eq_some_iff.1 h
        obtain ⟨xs, f, rfl, hx, hcs, hxl, hall⟩ := DataW.trod_struct hu ht
        injection hx with hx _
        injection hx with hx
        subst hx
        have hrl := Lib.mapM_length hrs
        have hxl' : xs.length = fs.size := by simpa using hl
        have := cuts_join cs (fs.toList.map fun f => (f.offset, P.cellsOf f.type)) rs 0 (by simp at hrl ⊢; omega) (fun i x r hi hr => by
          obtain ⟨g, hg, rfl⟩ : ∃ g, fs.toList[i]? = some g ∧ (g.offset, P.cellsOf g.type) = x := by simpa using hi
          have hxi := hall i g (by simpa using hg)
          obtain ⟨him, _⟩ := List.getElem?_eq_some_iff.1 hg
          simp at him
          obtain ⟨y, hy⟩ : ∃ y, xs[i]? = some y := ⟨_, List.getElem?_eq_getElem (by omega)⟩
          rw [hy] at hxi
          obtain ⟨b, hb, hf⟩ := Lib.mapM_at hrs i (g, y.1) (List.getElem?_zip_eq_some.2 ⟨hg, by simp [hy]⟩)
          obtain rfl := Option.some.inj (hr.symm.trans hb)
          exact flat_cells n g.type y.1 _ f _ y.2 hf hxi) (by rw [hcs]; exact hc)
        simpa using this
      · cases h
    · cases h
end

/-- What a row lists of one variable, as the variable's cells. -/
theorem laid_cells {P : Program} {W : World} {name : String} {d : DataW Unit} {rest : List (String × DataW Unit)} {g : Nat} {t : TypeId} {vs : List Value} (n : Nat)
    (hg : P.globalNamed name = some g) (hty : (P.globals[g]?).map (·.type) = some t) (hf : flatC P n t d = some vs) (h : laidMet P ((name, d) :: rest) W) : ∀ i, W.cell? ⟨g, i, none⟩ = vs[i]? := by
  obtain ⟨ps, ⟨g', t', cs, fuel, p, q, hg', ht', hvar, hd, _, _⟩, _⟩ := h
  obtain rfl := Option.some.inj (hg.symm.trans hg')
  obtain rfl := Option.some.inj (hty.symm.trans ht')
  intro i
  rw [World.var?_cell hg hvar i, ← flat_cells n t d vs fuel cs.toList p hf hd]
  simp
end Go.Proofs.YtlpalepkomkngaaDoor

namespace Go.Proofs.YtlpalepkomkngaaDoor
open Go.ChangeShapes Go.WideShapes Go.ChangeAt Go.RowKit Rich

theorem nn_cells9 : flatC Tryd.prog 3 86 (Rows.laid_chandlery_dep_notNames : DataW Unit) = some [.string nn0, .string nn1, .string nn2, .string nn3, .string nn4, .string nn5, .string nn6] := by kernel_rfl
theorem notW_of9 {W : World} {L : List (String × DataW Unit)} (h : laidMetH Tryd.prog L W) (hp : (L.filter fun x => x.1 == "chandlery/dep.notNames") = [("chandlery/dep.notNames", Rows.laid_chandlery_dep_notNames)]) (hq : laidMetH Tryd.prog L W = laidMet Tryd.prog L W) : NotW W := by
  rw [hq] at h
  have h1 := h.filter (fun x => x.1 == "chandlery/dep.notNames")
  rw [hp] at h1
  have hc := laid_cells 3 (show Tryd.prog.globalNamed "chandlery/dep.notNames" = some 0 by kernel_rfl) (show (Tryd.prog.globals[0]?).map (·.type) = some 86 by kernel_rfl) nn_cells9 h1
  exact ⟨World.block_lt_of_cell? W _ (hc 0), hc 0, hc 1, hc 2, hc 3, hc 4, hc 5, hc 6⟩
def rowsL9 : List Value := ((List.range 8).map fun k => (rowA k).toList).flatten
theorem rr_cells9 : flatC Tryd.prog 4 131 (Rows.laid_chandlery_shape_rows : DataW Unit) = some rowsL9 := by kernel_rfl
theorem rows_at9 (k r : Nat) (hk : k < 8) (hr : r < 5) : rowsL9[k * 5 + r]? = (rowA k).toList[r]? := by
  have h1 : k = 0 ∨ k = 1 ∨ k = 2 ∨ k = 3 ∨ k = 4 ∨ k = 5 ∨ k = 6 ∨ k = 7 := by omega
  have h2 : r = 0 ∨ r = 1 ∨ r = 2 ∨ r = 3 ∨ r = 4 := by omega
  rcases h1 with rfl | rfl | rfl | rfl | rfl | rfl | rfl | rfl <;> rcases h2 with rfl | rfl | rfl | rfl | rfl <;> rfl
theorem tabW_of9 {W : World} {L : List (String × DataW Unit)} (h : laidMetH Tryd.prog L W) (hp : (L.filter fun x => x.1 == "chandlery/shape.rows") = [("chandlery/shape.rows", Rows.laid_chandlery_shape_rows)]) (hq : laidMetH Tryd.prog L W = laidMet Tryd.prog L W) : TabW9 W := by
  rw [hq] at h
  have h1 := h.filter (fun x => x.1 == "chandlery/shape.rows")
  rw [hp] at h1
  have hc := laid_cells 4 (show Tryd.prog.globalNamed "chandlery/shape.rows" = some 2 by kernel_rfl) (show (Tryd.prog.globals[2]?).map (·.type) = some 131 by kernel_rfl) rr_cells9 h1
  have h0 : ∀ k, k < 8 → ∀ r, r < 5 → W.cell? ⟨2, k * 5 + r, none⟩ = (rowA k).toList[r]? := fun k hk r hr => (hc (k * 5 + r)).trans (rows_at9 k r hk hr)
  exact ⟨World.block_lt_of_cell? W _ (hc 0), fun k hk => h0 k hk 0 (by omega), fun k hk => h0 k hk 1 (by omega), fun k hk => h0 k hk 2 (by omega), fun k hk => h0 k hk 3 (by omega), fun k hk => h0 k hk 4 (by omega)⟩
end Go.Proofs.YtlpalepkomkngaaDoor

namespace Go.Proofs.YtlpalepkomkngaaDoor
open Go.ChangeShapes Go.WideShapes Go.ChangeAt Go.RowKit
section
variable {H : Type} {enc : TypeId × Value → H}
set_option maxRecDepth 100000 in
theorem law_lift_laid (L : List (String × DataW Unit)) (os : Os) (started : os.Started) (f : FuncId) (fn : Func) (s : ChangeSpec) (noInit : Tryd.prog.inits.idxOf? f = none) (hfn : Tryd.prog.funcs[f]? = some fn) (hvars : s.vars = [])
    (hread : ∀ t ∈ fn.params.toList, Tryd.prog.readableRec t = true ∧ t < Tryd.prog.types.size) (hres : fn.resultTypes = #[4])
    (hs : ∀ (ds : List (DataW H)) (vs : List Value) (W : World) (p : List MemPlace), DataW.TrodAll enc Tryd.prog W 0 (fun _ => true) true fn.params.toList vs ds p → s.fn H (ds ++ []) = { results := [.lit (.bool true)], args := ds })
    (witness : ∃ (w : World) (tape : Tape) (i : Input), w.os = os ∧ (w.forCall tape i).Shaped Tryd.checked.prog ∧ i.vars = [] ∧ Input.okWide Tryd.checked.prog (w.forCall tape i) .any w.heap.size f i ∧
      ((s.pre enc Tryd.checked.prog fn [] false (w.forCall tape i).memory i.args ∧ laidMetH Tryd.checked.prog L (w.forCall tape i).memory) ∧ sizedMet enc Tryd.checked.prog fn (OpenSpec.ofChange s) false (w.forCall tape i).memory i.args) ∧ ({} : Assume).holds Tryd.checked.prog (lone (Frame.enter Tryd.checked.prog f i.args .normal) [] (w.forCall tape i)))
    (walk : ∀ (W : World) (base : Nat) (args : Array Value) (ds : List (DataW H)) (p : List MemPlace),
      (∀ (j : Nat) t v, fn.params[j]? = some t → args[j]? = some v → Value.okWide Tryd.prog W .any base t v) →
      DataW.TrodAll enc Tryd.prog W 0 (fun _ => true) true fn.params.toList args.toList ds p →
      (DataW.weightsEach Tryd.prog (fn.params.toList ++ s.plain.varTypes Tryd.prog) (ds ++ [])).all (· ≤ reachBytes) = true →
      Calls Tryd.prog f args W fun e W' => e = .returned (.bool true) ∧ Below W.heap.size W W') :
    ReturnsInHanded {} Tryd.checked os f .any (fun w args => (s.pre enc Tryd.prog fn [] false w args ∧ laidMetH Tryd.prog L w) ∧ sizedMet enc Tryd.prog fn (OpenSpec.ofChange s) false w args) (s.post enc Tryd.prog fn false true false false) := by
  refine returnsInHanded_of_change_and (C := Tryd.checked) (X := fun w _ => laidMetH Tryd.prog L w) (fun _ _ _ hh h => h.of_heap hh) own_ started noInit hfn witness ?_
  intro W base args ds gs before hval0 hW _ hsz _ _
  have hW' := hW
  obtain ⟨p, q, hA, hV, rfl, hfz, hnd⟩ := hW
  rw [hvars] at hV
  obtain ⟨rfl, rfl⟩ := trodVars_none hV
  refine (walk W base args ds p hval0 hA hsz).mono fun e W' ⟨he, bel⟩ => ?_
  subst he
  have e1 := hs ds _ W p hA
  simp only [List.append_nil] at hW'
  refine ⟨_, rfl, ds, [], p, [], p, [], hW', ?_, ?_, ?_, bel.frame _, fun h => by cases h⟩
  · have e2 := e1
    simp only [List.append_nil] at e2 ⊢
    rw [e2, hres]
    exact trodAll_mk1 (shut_bool Tryd.underlying4 _)
  · have e2 := e1
    simp only [List.append_nil] at e2 ⊢
    rw [e2]
    exact trodAll_later bel _ _ _ _ hread hA
  · have e2 := e1
    simp only [List.append_nil] at e2 ⊢
    rw [e2, hvars]
    rfl
end
end Go.Proofs.YtlpalepkomkngaaDoor
