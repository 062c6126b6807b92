/-
  The walks over the program's own text of layer 6, and over the document's answer: which dependencies may be. Conditions: the array of words that are no names lies as the program's text lays it. A strings.Builder of the call's own: what its methods do to it; the library's copy check is left out where it would be refused. A builder of the call's own: what is written to it, as bytes; what stands beside it. strconv.Itoa and strconv.Atoi, where the library's table and its two errors lie as its text lays them. The walk over the program's own Show: the text of an EVR, put together in a builder. strings.Clone: the same text; what was there lies as it lay. The walk over the program's own split: what stands in a text for an epoch, a version, a release. The walk over the program's own Parse: the EVR of a text. The walks over the program's own text of layer 6: the dependency of words. Conditions: the library's variables and the array of words that are no names lie as their texts lay them. The walk over the program's own text of layer 6: Own. Conditions: as each theorem states.
-/
import Derived.Test.YtpdoeapjdifmbaaGreatDoorK12
import Derived.Test.YtpdoeapjdifmbaaGreatDoorK08
import Derived.Test.YtpdoeapjdifmbaaGreatDoorK02
import Derived.Test.YtpdoeapjdifmbaaGreatDoorRows
import Derived.Shelf.Strings.BuilderK
import Derived.Lib.Builder
import Derived.Lib.FrozenHead2
import Derived.OwnWalk
import Derived.Lib.Hide
import Derived.WalkKit
import Derived.Test.YtpdoeapjdifmbaaGreatDoorK11
import Derived.Shelf.Strconv.Itoa3
import Derived.Shelf.Strconv.AtoiAll
import Derived.Shelf.Strconv.ErrVarAll
import Derived.Lib.AppendIntMem
import Derived.Lib.LaidTab
import Derived.Shelf.Strconv.Clone
import Derived.Deep.RegionWith
import Derived.BigRegion
namespace Go.Proofs.YtpdoeapjdifmbaaGreatDoor
open Go.RowKit Ver Evr Span Dep

/-- A dependency as the program has it. -/
abbrev dD (nm : ByteArray) (o : Nat) (n : Int) (v r : ByteArray) : D := ⟨nm.data.toList, o, evrE n v r⟩
theorem same_kept {P : Program} {f : FuncId} {args : Array Value} {w : World} {v : Value} (h : Calls P f args w fun e w' => e = .returned v ∧ w' = w) : Calls P f args w fun e w' => e = .returned v ∧ Kept (fun _ => False) w w' :=
  h.mono fun _ _ ⟨h1, h2⟩ => ⟨h1, by rw [h2]; exact Kept.refl _ _⟩
theorem may_name {nm : ByteArray} {o : Nat} {n : Int} {v r : ByteArray} (h : nameD nm.data.toList = false) : mayD (dD nm o n v r) = false := by unfold mayD; simp [h]
theorem may_op0 {nm : ByteArray} {o : Nat} {n : Int} {v r : ByteArray} (h : mayO o = false) : mayD (dD nm o n v r) = false := by unfold mayD; simp [h]
theorem may_none {nm : ByteArray} {n : Int} {v r : ByteArray} (h : nameD nm.data.toList = true) : mayD (dD nm 0 n v r) = noE (evrE n v r) := by rw [may_any, h, Bool.true_and]
theorem may_some {nm : ByteArray} {o : Nat} {n : Int} {v r : ByteArray} (h : nameD nm.data.toList = true) (ho : mayO o = true) (h0 : o ≠ 0) : mayD (dD nm o n v r) = (!fileD nm.data.toList && mayE (evrE n v r) true) := by rw [may_op h0, h, ho, Bool.true_and, Bool.true_and]
theorem noE_cases (n : Int) (v r : ByteArray) : (n = 0 ∧ v = ⟨#[]⟩ ∧ r = ⟨#[]⟩ ∧ noE (evrE n v r) = true) ∨ (noE (evrE n v r) = false ∧ (n ≠ 0 ∨ (n = 0 ∧ v ≠ ⟨#[]⟩) ∨ (n = 0 ∧ v = ⟨#[]⟩ ∧ r ≠ ⟨#[]⟩))) := by
  by_cases h1 : n = 0
  · by_cases h2 : v = ⟨#[]⟩
    · by_cases h3 : r = ⟨#[]⟩
      · exact .inl ⟨h1, h2, h3, by subst h1; subst h2; subst h3; rfl⟩
      · exact .inr ⟨by unfold noE evrE; simp; intro _ _ h; exact h3 (ByteArray.ext h), .inr (.inr ⟨h1, h2, h3⟩)⟩
    · exact .inr ⟨by unfold noE evrE; simp; intro _ h; exact absurd (ByteArray.ext h) h2, .inr (.inl ⟨h1, h2⟩)⟩
  · exact .inr ⟨by unfold noE evrE; simp [h1], .inl h1⟩

theorem isEmpty_ne {r : ByteArray} (h : r ≠ ⟨#[]⟩) : r.toList.isEmpty = false := by
  cases hr : r.toList with
  | nil => exact absurd hr (text_ne h).2
  | cons _ _ => rfl
set_option maxRecDepth 100000 in
set_option maxHeartbeats 2000000 in
theorem may6p_A (nm : ByteArray) (o : Nat) (n : Int) (v r : ByteArray) (w : World) (hN : (∀ W, Kept (fun _ => False) w W → Calls Tryz.prog 107 #[.string nm] W fun e w' => e = .returned (.bool false) ∧ Kept (fun _ => False) W w')) : Calls Tryz.prog 112 #[.agg #[.string nm, .int .u8 (o : Int), .int .i64 n, .string v, .string r]] w fun e w' => e = .returned (.bool false) ∧ Kept (fun _ => False) w w' := by
    have HA := Lib.hid (Box.made w 60 #[.string nm, .int .u8 (o : Int), .int .i64 n, .string v, .string r])
    have HK := Lib.hid ((Kept.refl (fun _ => False) w).alloc (.cells #[.string nm, .int .u8 (o : Int), .int .i64 n, .string v, .string r] 60))
    go_enter Tryz.func112, Tryz.ntmps112
    go_wp2_with (first
      | (go_at_call 107; with_reducible refine (hN _ HK.out).mono ?_; rintro e w5 ⟨rfl, hk5⟩; have HA := Lib.hid (hk5.box HA.out (fun h => h)); have HK := Lib.hid (Kept.trans HK.out hk5 (fun _ _ h => h)); have ax0 := HA.out.cell 0; have ax1 := HA.out.cell 1; have ax2 := HA.out.cell 2; have ax3 := HA.out.cell 3; have ax4 := HA.out.cell 4; clear hk5)
      | fail)
    go_ret
    exact ⟨rfl, HK.out⟩
set_option maxRecDepth 100000 in
set_option maxHeartbeats 2000000 in
theorem may6p_B (nm : ByteArray) (o : Nat) (n : Int) (v r : ByteArray) (w : World) (hN : (∀ W, Kept (fun _ => False) w W → Calls Tryz.prog 107 #[.string nm] W fun e w' => e = .returned (.bool true) ∧ Kept (fun _ => False) W w')) (hS : (∀ W, Kept (fun _ => False) w W → Calls Tryz.prog 143 #[.int .u8 (o : Int)] W fun e w' => e = .returned (.bool false) ∧ Kept (fun _ => False) W w')) : Calls Tryz.prog 112 #[.agg #[.string nm, .int .u8 (o : Int), .int .i64 n, .string v, .string r]] w fun e w' => e = .returned (.bool false) ∧ Kept (fun _ => False) w w' := by
    have HA := Lib.hid (Box.made w 60 #[.string nm, .int .u8 (o : Int), .int .i64 n, .string v, .string r])
    have HK := Lib.hid ((Kept.refl (fun _ => False) w).alloc (.cells #[.string nm, .int .u8 (o : Int), .int .i64 n, .string v, .string r] 60))
    go_enter Tryz.func112, Tryz.ntmps112
    go_wp2_with (first
      | (go_at_call 107; with_reducible refine (hN _ HK.out).mono ?_; rintro e w5 ⟨rfl, hk5⟩; have HA := Lib.hid (hk5.box HA.out (fun h => h)); have HK := Lib.hid (Kept.trans HK.out hk5 (fun _ _ h => h)); have ax0 := HA.out.cell 0; have ax1 := HA.out.cell 1; have ax2 := HA.out.cell 2; have ax3 := HA.out.cell 3; have ax4 := HA.out.cell 4; clear hk5)
      | (go_at_call 143; with_reducible refine (hS _ HK.out).mono ?_; rintro e w5 ⟨rfl, hk5⟩; have HA := Lib.hid (hk5.box HA.out (fun h => h)); have HK := Lib.hid (Kept.trans HK.out hk5 (fun _ _ h => h)); have ax0 := HA.out.cell 0; have ax1 := HA.out.cell 1; have ax2 := HA.out.cell 2; have ax3 := HA.out.cell 3; have ax4 := HA.out.cell 4; clear hk5)
      | fail)
    go_ret
    exact ⟨rfl, HK.out⟩
set_option maxRecDepth 100000 in
set_option maxHeartbeats 2000000 in
theorem may6p_C0 (nm : ByteArray) (w : World) (hN : (∀ W, Kept (fun _ => False) w W → Calls Tryz.prog 107 #[.string nm] W fun e w' => e = .returned (.bool true) ∧ Kept (fun _ => False) W w')) (hS : (∀ W, Kept (fun _ => False) w W → Calls Tryz.prog 143 #[.int .u8 0] W fun e w' => e = .returned (.bool true) ∧ Kept (fun _ => False) W w')) : Calls Tryz.prog 112 #[.agg #[.string nm, .int .u8 0, .int .i64 0, .string ⟨#[]⟩, .string ⟨#[]⟩]] w fun e w' => e = .returned (.bool true) ∧ Kept (fun _ => False) w w' := by
    have HA := Lib.hid (Box.made w 60 #[.string nm, .int .u8 0, .int .i64 0, .string ⟨#[]⟩, .string ⟨#[]⟩])
    have HK := Lib.hid ((Kept.refl (fun _ => False) w).alloc (.cells #[.string nm, .int .u8 0, .int .i64 0, .string ⟨#[]⟩, .string ⟨#[]⟩] 60))
    go_enter Tryz.func112, Tryz.ntmps112
    go_wp2_with (first
      | (go_at_call 107; with_reducible refine (hN _ HK.out).mono ?_; rintro e w5 ⟨rfl, hk5⟩; have HA := Lib.hid (hk5.box HA.out (fun h => h)); have HK := Lib.hid (Kept.trans HK.out hk5 (fun _ _ h => h)); have ax0 := HA.out.cell 0; have ax1 := HA.out.cell 1; have ax2 := HA.out.cell 2; have ax3 := HA.out.cell 3; have ax4 := HA.out.cell 4; clear hk5)
      | (go_at_call 143; with_reducible refine (hS _ HK.out).mono ?_; rintro e w5 ⟨rfl, hk5⟩; have HA := Lib.hid (hk5.box HA.out (fun h => h)); have HK := Lib.hid (Kept.trans HK.out hk5 (fun _ _ h => h)); have ax0 := HA.out.cell 0; have ax1 := HA.out.cell 1; have ax2 := HA.out.cell 2; have ax3 := HA.out.cell 3; have ax4 := HA.out.cell 4; clear hk5)
      | fail)
    go_ret
    exact ⟨rfl, HK.out⟩
set_option maxRecDepth 100000 in
set_option maxHeartbeats 2000000 in
theorem may6p_C1 (nm : ByteArray) (n : Int) (v r : ByteArray) (w : World) (hN : (∀ W, Kept (fun _ => False) w W → Calls Tryz.prog 107 #[.string nm] W fun e w' => e = .returned (.bool true) ∧ Kept (fun _ => False) W w')) (hS : (∀ W, Kept (fun _ => False) w W → Calls Tryz.prog 143 #[.int .u8 0] W fun e w' => e = .returned (.bool true) ∧ Kept (fun _ => False) W w')) (hn : (n == 0) = false) : Calls Tryz.prog 112 #[.agg #[.string nm, .int .u8 0, .int .i64 n, .string v, .string r]] w fun e w' => e = .returned (.bool false) ∧ Kept (fun _ => False) w w' := by
    have HA := Lib.hid (Box.made w 60 #[.string nm, .int .u8 0, .int .i64 n, .string v, .string r])
    have HK := Lib.hid ((Kept.refl (fun _ => False) w).alloc (.cells #[.string nm, .int .u8 0, .int .i64 n, .string v, .string r] 60))
    go_enter Tryz.func112, Tryz.ntmps112
    go_wp2_with (first
      | (go_at_call 107; with_reducible refine (hN _ HK.out).mono ?_; rintro e w5 ⟨rfl, hk5⟩; have HA := Lib.hid (hk5.box HA.out (fun h => h)); have HK := Lib.hid (Kept.trans HK.out hk5 (fun _ _ h => h)); have ax0 := HA.out.cell 0; have ax1 := HA.out.cell 1; have ax2 := HA.out.cell 2; have ax3 := HA.out.cell 3; have ax4 := HA.out.cell 4; clear hk5)
      | (go_at_call 143; with_reducible refine (hS _ HK.out).mono ?_; rintro e w5 ⟨rfl, hk5⟩; have HA := Lib.hid (hk5.box HA.out (fun h => h)); have HK := Lib.hid (Kept.trans HK.out hk5 (fun _ _ h => h)); have ax0 := HA.out.cell 0; have ax1 := HA.out.cell 1; have ax2 := HA.out.cell 2; have ax3 := HA.out.cell 3; have ax4 := HA.out.cell 4; clear hk5)
      | fail)
    go_ret
    exact ⟨rfl, HK.out⟩
set_option maxRecDepth 100000 in
set_option maxHeartbeats 2000000 in
theorem may6p_C2 (nm : ByteArray) (v r : ByteArray) (w : World) (hN : (∀ W, Kept (fun _ => False) w W → Calls Tryz.prog 107 #[.string nm] W fun e w' => e = .returned (.bool true) ∧ Kept (fun _ => False) W w')) (hS : (∀ W, Kept (fun _ => False) w W → Calls Tryz.prog 143 #[.int .u8 0] W fun e w' => e = .returned (.bool true) ∧ Kept (fun _ => False) W w')) (hn : v ≠ ⟨#[]⟩) : Calls Tryz.prog 112 #[.agg #[.string nm, .int .u8 0, .int .i64 0, .string v, .string r]] w fun e w' => e = .returned (.bool false) ∧ Kept (fun _ => False) w w' := by
    obtain ⟨g1, g2⟩ := text_ne hn
    have g3 := isEmpty_ne hn
    have HA := Lib.hid (Box.made w 60 #[.string nm, .int .u8 0, .int .i64 0, .string v, .string r])
    have HK := Lib.hid ((Kept.refl (fun _ => False) w).alloc (.cells #[.string nm, .int .u8 0, .int .i64 0, .string v, .string r] 60))
    go_enter Tryz.func112, Tryz.ntmps112
    go_wp2_with (first
      | (go_at_call 107; with_reducible refine (hN _ HK.out).mono ?_; rintro e w5 ⟨rfl, hk5⟩; have HA := Lib.hid (hk5.box HA.out (fun h => h)); have HK := Lib.hid (Kept.trans HK.out hk5 (fun _ _ h => h)); have ax0 := HA.out.cell 0; have ax1 := HA.out.cell 1; have ax2 := HA.out.cell 2; have ax3 := HA.out.cell 3; have ax4 := HA.out.cell 4; clear hk5)
      | (go_at_call 143; with_reducible refine (hS _ HK.out).mono ?_; rintro e w5 ⟨rfl, hk5⟩; have HA := Lib.hid (hk5.box HA.out (fun h => h)); have HK := Lib.hid (Kept.trans HK.out hk5 (fun _ _ h => h)); have ax0 := HA.out.cell 0; have ax1 := HA.out.cell 1; have ax2 := HA.out.cell 2; have ax3 := HA.out.cell 3; have ax4 := HA.out.cell 4; clear hk5)
      | fail)
    go_ret
    exact ⟨rfl, HK.out⟩
set_option maxRecDepth 100000 in
set_option maxHeartbeats 2000000 in
theorem may6p_C3 (nm : ByteArray) (r : ByteArray) (w : World) (hN : (∀ W, Kept (fun _ => False) w W → Calls Tryz.prog 107 #[.string nm] W fun e w' => e = .returned (.bool true) ∧ Kept (fun _ => False) W w')) (hS : (∀ W, Kept (fun _ => False) w W → Calls Tryz.prog 143 #[.int .u8 0] W fun e w' => e = .returned (.bool true) ∧ Kept (fun _ => False) W w')) (hn : r ≠ ⟨#[]⟩) : Calls Tryz.prog 112 #[.agg #[.string nm, .int .u8 0, .int .i64 0, .string ⟨#[]⟩, .string r]] w fun e w' => e = .returned (.bool false) ∧ Kept (fun _ => False) w w' := by
    obtain ⟨g1, g2⟩ := text_ne hn
    have g3 := isEmpty_ne hn
    have HA := Lib.hid (Box.made w 60 #[.string nm, .int .u8 0, .int .i64 0, .string ⟨#[]⟩, .string r])
    have HK := Lib.hid ((Kept.refl (fun _ => False) w).alloc (.cells #[.string nm, .int .u8 0, .int .i64 0, .string ⟨#[]⟩, .string r] 60))
    go_enter Tryz.func112, Tryz.ntmps112
    go_wp2_with (first
      | (go_at_call 107; with_reducible refine (hN _ HK.out).mono ?_; rintro e w5 ⟨rfl, hk5⟩; have HA := Lib.hid (hk5.box HA.out (fun h => h)); have HK := Lib.hid (Kept.trans HK.out hk5 (fun _ _ h => h)); have ax0 := HA.out.cell 0; have ax1 := HA.out.cell 1; have ax2 := HA.out.cell 2; have ax3 := HA.out.cell 3; have ax4 := HA.out.cell 4; clear hk5)
      | (go_at_call 143; with_reducible refine (hS _ HK.out).mono ?_; rintro e w5 ⟨rfl, hk5⟩; have HA := Lib.hid (hk5.box HA.out (fun h => h)); have HK := Lib.hid (Kept.trans HK.out hk5 (fun _ _ h => h)); have ax0 := HA.out.cell 0; have ax1 := HA.out.cell 1; have ax2 := HA.out.cell 2; have ax3 := HA.out.cell 3; have ax4 := HA.out.cell 4; clear hk5)
      | fail)
    go_ret
    exact ⟨rfl, HK.out⟩
set_option maxRecDepth 100000 in
set_option maxHeartbeats 2000000 in
theorem may6p_D (nm : ByteArray) (o : Nat) (n : Int) (v r : ByteArray) (w : World) (h0 : ((o : Int) == 0) = false) (hN : (∀ W, Kept (fun _ => False) w W → Calls Tryz.prog 107 #[.string nm] W fun e w' => e = .returned (.bool true) ∧ Kept (fun _ => False) W w')) (hS : (∀ W, Kept (fun _ => False) w W → Calls Tryz.prog 143 #[.int .u8 (o : Int)] W fun e w' => e = .returned (.bool true) ∧ Kept (fun _ => False) W w')) (hF : (∀ W, Kept (fun _ => False) w W → Calls Tryz.prog 108 #[.string nm] W fun e w' => e = .returned (.bool true) ∧ Kept (fun _ => False) W w')) : Calls Tryz.prog 112 #[.agg #[.string nm, .int .u8 (o : Int), .int .i64 n, .string v, .string r]] w fun e w' => e = .returned (.bool false) ∧ Kept (fun _ => False) w w' := by
    have HA := Lib.hid (Box.made w 60 #[.string nm, .int .u8 (o : Int), .int .i64 n, .string v, .string r])
    have HK := Lib.hid ((Kept.refl (fun _ => False) w).alloc (.cells #[.string nm, .int .u8 (o : Int), .int .i64 n, .string v, .string r] 60))
    go_enter Tryz.func112, Tryz.ntmps112
    go_wp2_with (first
      | (go_at_call 107; with_reducible refine (hN _ HK.out).mono ?_; rintro e w5 ⟨rfl, hk5⟩; have HA := Lib.hid (hk5.box HA.out (fun h => h)); have HK := Lib.hid (Kept.trans HK.out hk5 (fun _ _ h => h)); have ax0 := HA.out.cell 0; have ax1 := HA.out.cell 1; have ax2 := HA.out.cell 2; have ax3 := HA.out.cell 3; have ax4 := HA.out.cell 4; clear hk5)
      | (go_at_call 143; with_reducible refine (hS _ HK.out).mono ?_; rintro e w5 ⟨rfl, hk5⟩; have HA := Lib.hid (hk5.box HA.out (fun h => h)); have HK := Lib.hid (Kept.trans HK.out hk5 (fun _ _ h => h)); have ax0 := HA.out.cell 0; have ax1 := HA.out.cell 1; have ax2 := HA.out.cell 2; have ax3 := HA.out.cell 3; have ax4 := HA.out.cell 4; clear hk5)
      | (go_at_call 108; with_reducible refine (hF _ HK.out).mono ?_; rintro e w5 ⟨rfl, hk5⟩; have HA := Lib.hid (hk5.box HA.out (fun h => h)); have HK := Lib.hid (Kept.trans HK.out hk5 (fun _ _ h => h)); have ax0 := HA.out.cell 0; have ax1 := HA.out.cell 1; have ax2 := HA.out.cell 2; have ax3 := HA.out.cell 3; have ax4 := HA.out.cell 4; clear hk5)
      | fail)
    go_ret
    exact ⟨rfl, HK.out⟩
set_option maxRecDepth 100000 in
set_option maxHeartbeats 2000000 in
theorem may6p_E (nm : ByteArray) (o : Nat) (n : Int) (v r : ByteArray) (w : World) (h0 : ((o : Int) == 0) = false) (hN : (∀ W, Kept (fun _ => False) w W → Calls Tryz.prog 107 #[.string nm] W fun e w' => e = .returned (.bool true) ∧ Kept (fun _ => False) W w')) (hS : (∀ W, Kept (fun _ => False) w W → Calls Tryz.prog 143 #[.int .u8 (o : Int)] W fun e w' => e = .returned (.bool true) ∧ Kept (fun _ => False) W w')) (x : Bool) (hF : (∀ W, Kept (fun _ => False) w W → Calls Tryz.prog 108 #[.string nm] W fun e w' => e = .returned (.bool false) ∧ Kept (fun _ => False) W w')) (hE : (∀ W, Kept (fun _ => False) w W → Calls Tryz.prog 109 #[.agg #[.int .i64 n, .string v, .string r], .bool true] W fun e w' => e = .returned (.bool x) ∧ Kept (fun _ => False) W w')) : Calls Tryz.prog 112 #[.agg #[.string nm, .int .u8 (o : Int), .int .i64 n, .string v, .string r]] w fun e w' => e = .returned (.bool x) ∧ Kept (fun _ => False) w w' := by
    have HA := Lib.hid (Box.made w 60 #[.string nm, .int .u8 (o : Int), .int .i64 n, .string v, .string r])
    have HK := Lib.hid ((Kept.refl (fun _ => False) w).alloc (.cells #[.string nm, .int .u8 (o : Int), .int .i64 n, .string v, .string r] 60))
    go_enter Tryz.func112, Tryz.ntmps112
    go_wp2_with (first
      | (go_at_call 107; with_reducible refine (hN _ HK.out).mono ?_; rintro e w5 ⟨rfl, hk5⟩; have HA := Lib.hid (hk5.box HA.out (fun h => h)); have HK := Lib.hid (Kept.trans HK.out hk5 (fun _ _ h => h)); have ax0 := HA.out.cell 0; have ax1 := HA.out.cell 1; have ax2 := HA.out.cell 2; have ax3 := HA.out.cell 3; have ax4 := HA.out.cell 4; clear hk5)
      | (go_at_call 143; with_reducible refine (hS _ HK.out).mono ?_; rintro e w5 ⟨rfl, hk5⟩; have HA := Lib.hid (hk5.box HA.out (fun h => h)); have HK := Lib.hid (Kept.trans HK.out hk5 (fun _ _ h => h)); have ax0 := HA.out.cell 0; have ax1 := HA.out.cell 1; have ax2 := HA.out.cell 2; have ax3 := HA.out.cell 3; have ax4 := HA.out.cell 4; clear hk5)
      | (go_at_call 108; with_reducible refine (hF _ HK.out).mono ?_; rintro e w5 ⟨rfl, hk5⟩; have HA := Lib.hid (hk5.box HA.out (fun h => h)); have HK := Lib.hid (Kept.trans HK.out hk5 (fun _ _ h => h)); have ax0 := HA.out.cell 0; have ax1 := HA.out.cell 1; have ax2 := HA.out.cell 2; have ax3 := HA.out.cell 3; have ax4 := HA.out.cell 4; clear hk5)
      | (go_at_call 109; with_reducible refine (hE _ HK.out).mono ?_; rintro e w5 ⟨rfl, hk5⟩; have HA := Lib.hid (hk5.box HA.out (fun h => h)); have HK := Lib.hid (Kept.trans HK.out hk5 (fun _ _ h => h)); have ax0 := HA.out.cell 0; have ax1 := HA.out.cell 1; have ax2 := HA.out.cell 2; have ax3 := HA.out.cell 3; have ax4 := HA.out.cell 4; clear hk5)
      | fail)
    go_ret
    exact ⟨rfl, HK.out⟩
theorem may6p_walk (nm : ByteArray) (o : Nat) (ho : o < 256) (n : Int) (v r : ByteArray) (w : World) (hW : NotW w) : Calls Tryz.prog 112 #[depV nm o n v r] w fun e w' => e = .returned (.bool (mayD (dD nm o n v r))) ∧ Kept (fun _ => False) w w' := by
  have hN : ∀ W, Kept (fun _ => False) w W → Calls Tryz.prog 107 #[.string nm] W fun e w' => e = .returned (.bool (nameD nm.data.toList)) ∧ Kept (fun _ => False) W w' := fun W hk => name_walk nm W (hW.kept hk)
  have hF : ∀ W, Kept (fun _ => False) w W → Calls Tryz.prog 108 #[.string nm] W fun e w' => e = .returned (.bool (fileD nm.data.toList)) ∧ Kept (fun _ => False) W w' := fun W hk => file_walk nm W (hW.kept hk)
  have hS : ∀ W, Kept (fun _ => False) w W → Calls Tryz.prog 143 #[.int .u8 (o : Int)] W fun e w' => e = .returned (.bool (mayO o)) ∧ Kept (fun _ => False) W w' := fun W _ => may_k o ho W
  have hE : ∀ W, Kept (fun _ => False) w W → Calls Tryz.prog 109 #[.agg #[.int .i64 n, .string v, .string r], .bool true] W fun e w' => e = .returned (.bool (mayE (evrE n v r) true)) ∧ Kept (fun _ => False) W w' := fun W _ => mayK_walk n v r true W
  cases hx : nameD nm.data.toList with
  | false =>
    rw [hx] at hN
    rw [may_name hx]
    exact may6p_A nm o n v r w hN
  | true =>
    rw [hx] at hN
    cases hy : mayO o with
    | false =>
      rw [hy] at hS
      rw [may_op0 hy]
      exact may6p_B nm o n v r w hN hS
    | true =>
      rw [hy] at hS
      by_cases h0 : o = 0
      · subst h0
        rw [may_none hx]
        rcases noE_cases n v r with ⟨rfl, rfl, rfl, h⟩ | ⟨h, h1 | ⟨rfl, h1⟩ | ⟨rfl, rfl, h1⟩⟩
        · rw [h]; exact may6p_C0 nm w hN hS
        · rw [h]; exact may6p_C1 nm n v r w hN hS (by simpa using h1)
        · rw [h]; exact may6p_C2 nm v r w hN hS h1
        · rw [h]; exact may6p_C3 nm r w hN hS h1
      · rw [may_some hx hy h0]
        cases hz : fileD nm.data.toList with
        | true =>
          rw [hz] at hF
          exact may6p_D nm o n v r w (by simp; exact h0) hN hS hF
        | false =>
          rw [hz] at hF
          exact may6p_E nm o n v r w (by simp; exact h0) hN hS _ hF hE
end Go.Proofs.YtpdoeapjdifmbaaGreatDoor

namespace Go.Proofs.YtpdoeapjdifmbaaGreatDoor
open Go.Shelf
open Go.RowKit
end Go.Proofs.YtpdoeapjdifmbaaGreatDoor

namespace Go.Proofs.YtpdoeapjdifmbaaGreatDoor
open Go.RowKit

end Go.Proofs.YtpdoeapjdifmbaaGreatDoor

namespace Go.Proofs.YtpdoeapjdifmbaaGreatDoor
open Go.Shelf
open Go.RowKit Evr
/-- The library's table of tens, and its two errors, as its own text lays them. -/
structure LibW (w : World) : Prop where
  pow : Lib.TabIs Tryz.prog w "internal/strconv.uint64pow10" .u64 Lib.pow10Tab
  syn : ∃ tp p, w.var? Tryz.prog "strconv.ErrSyntax" = some #[.iface tp p]
  rng : ∃ tp p, w.var? Tryz.prog "strconv.ErrRange" = some #[.iface tp p]
theorem var_kept {w w' : World} {n : String} {cs : Array Value} (h : w.var? Tryz.prog n = some cs) (k : Kept (fun _ => False) w w') : w'.var? Tryz.prog n = some cs := by
  unfold World.var? at h ⊢
  cases hg : Tryz.prog.globalNamed n with
  | none => rw [hg] at h; cases h
  | some g =>
    rw [hg] at h
    simp only [Option.bind_some] at h ⊢
    have hlt : g < w.heap.size := by
      by_cases hl : g < w.heap.size
      · exact hl
      · rw [Array.getElem?_eq_none (by omega)] at h; cases h
    rw [k.block g hlt (fun h => h)]
    exact h
theorem LibW.kept {w w' : World} (h : LibW w) (k : Kept (fun _ => False) w w') : LibW w' := by
  obtain ⟨t1, p1, h1⟩ := h.syn
  obtain ⟨t2, p2, h2⟩ := h.rng
  exact ⟨var_kept h.pow k, ⟨t1, p1, var_kept h1 k⟩, ⟨t2, p2, var_kept h2 k⟩⟩
end Go.Proofs.YtpdoeapjdifmbaaGreatDoor

namespace Go.Proofs.YtpdoeapjdifmbaaGreatDoor
open Go.RowKit Ver Evr

end Go.Proofs.YtpdoeapjdifmbaaGreatDoor

namespace Go.Proofs.YtpdoeapjdifmbaaGreatDoor
open Go.RowKit Go.Shelf
def lays316_ren : Go.Shelf.Ren := ⟨fun | 316 => 83 | n => n, fun | 9 => 9 | 3 => 3 | 4 => 4 | 37 => 132 | 0 => 0 | 127 => 133 | 5 => 5 | n => n, fun | n => n⟩
theorem lays316 : Go.Proofs.LaysM.n316 Tryz.prog lays316_ren := {
  mixed := by kernel_rfl
  f316 := Tryz.func83.trans (congrArg some (by kernel_rfl))
  t0 := Tryz.underlying0
  a0 := Tryz.isAgg0
  z0 := Tryz.sizeOf0
  v0 := Tryz.zeroValue0
  t3 := Tryz.underlying3
  a3 := Tryz.isAgg3
  z3 := Tryz.sizeOf3
  v3 := Tryz.zeroValue3
  t4 := Tryz.underlying4
  a4 := Tryz.isAgg4
  z4 := Tryz.sizeOf4
  v4 := Tryz.zeroValue4
  t9 := Tryz.underlying9
  a9 := Tryz.isAgg9
  z9 := Tryz.sizeOf9
  v9 := Tryz.zeroValue9
  t37 := Tryz.underlying132
  a37 := Tryz.isAgg132
  z37 := Tryz.sizeOf132
  v37 := Tryz.zeroValue132
  t127 := Tryz.underlying133
  a127 := Tryz.isAgg133
  z127 := Tryz.sizeOf133
  v127 := Tryz.zeroValue133
  t5 := Tryz.underlying5
  a5 := Tryz.isAgg5
  z5 := Tryz.sizeOf5
  v5 := Tryz.zeroValue5
  i0 := by kernel_rfl
  i3 := by kernel_rfl
  i4 := by kernel_rfl
  i5 := by kernel_rfl
  i9 := by kernel_rfl
  i37 := by kernel_rfl
  i127 := by kernel_rfl }

theorem clone_walk (s : ByteArray) (w : World) (hs : s.size ≤ 140737488355327) :
    Calls Tryz.prog 51 #[.string s] w fun e w' => e = .returned (.string s) ∧ Kept (fun _ => False) w w' := by
  have hc : ∀ W, Calls Tryz.prog 83 #[.string s] W fun e w' => e = .returned (.string s) ∧ Kept (fun _ => False) W w' := fun W =>
    (Any.stringslite_Clone lays316 s W (by omega)).mono fun _ _ ⟨h1, h2⟩ => ⟨h1, Kept.of_below h2 (fun i hi hb => by omega)⟩
  go_enter Tryz.func51, Tryz.ntmps51
  go_wp2_with (go_at_call 83; refine (hc _).mono ?_; rintro e w' ⟨rfl, hk⟩)
  go_ret
  exact ⟨rfl, hk⟩
end Go.Proofs.YtpdoeapjdifmbaaGreatDoor

namespace Go.Proofs.YtpdoeapjdifmbaaGreatDoor
open Go.RowKit Ver Evr

end Go.Proofs.YtpdoeapjdifmbaaGreatDoor

namespace Go.Proofs.YtpdoeapjdifmbaaGreatDoor
open Go.RowKit Ver Evr

end Go.Proofs.YtpdoeapjdifmbaaGreatDoor

namespace Go.Proofs.YtpdoeapjdifmbaaGreatDoor
open Go.RowKit Ver Evr Span Dep

theorem five {S : Nat → Prop} {a w : World} (h : Kept S a w) {g : Nat} (hg : a.heap.size ≤ g) (x0 x1 x2 x3 x4 : Value) : Kept S a (((((w.setCell ⟨g, 0, none⟩ x0).setCell ⟨g, 1, none⟩ x1).setCell ⟨g, 2, none⟩ x2).setCell ⟨g, 3, none⟩ x3).setCell ⟨g, 4, none⟩ x4) :=
  ((((h.setCell (p := ⟨g, 0, none⟩) (.inr hg) _).setCell (p := ⟨g, 1, none⟩) (.inr hg) _).setCell (p := ⟨g, 2, none⟩) (.inr hg) _).setCell (p := ⟨g, 3, none⟩) (.inr hg) _).setCell (p := ⟨g, 4, none⟩) (.inr hg) _
theorem five_box {w : World} {g : Nat} {t : TypeId} {a b c d e : Value} (h : Box w g t #[a, b, c, d, e]) (x0 x1 x2 x3 x4 : Value) : Box (((((w.setCell ⟨g, 0, none⟩ x0).setCell ⟨g, 1, none⟩ x1).setCell ⟨g, 2, none⟩ x2).setCell ⟨g, 3, none⟩ x3).setCell ⟨g, 4, none⟩ x4) g t #[x0, x1, x2, x3, x4] :=
  ((((h.stored 0 _).stored 1 _).stored 2 _).stored 3 _).stored 4 _

end Go.Proofs.YtpdoeapjdifmbaaGreatDoor

namespace Go.Proofs.YtpdoeapjdifmbaaGreatDoor
open Go.RowKit Ver Evr Span Dep

theorem dep_result6 {fn : Func} {p : Tmp} (h : fn.results = #[.cell p 60]) (tmps : Array Value) (W : World) (g : Nat) (cs : Array Value) (hp : tmps.getD p undef = .pointer (some ⟨g, 0, none⟩)) (hB : Box W g 60 cs) (hs : cs.size = 5) :
    (results fn tmps).run Tryz.prog W = .ok (.agg cs) W :=
  results_cell_row h tmps W g 60 cs (0, 0) _ hp hB Tryz.underlying60 rfl (by rw [hs]; kernel_rfl)
set_option maxRecDepth 100000 in
set_option maxHeartbeats 2000000 in
theorem own6_walk (nm : ByteArray) (n : Int) (v r : ByteArray) (hn : nm.size ≤ 140737488355327) (hv : v.size ≤ 140737488355327) (hr : r.size ≤ 140737488355327) (w : World) :
    Calls Tryz.prog 106 #[.string nm, .agg #[.int .i64 n, .string v, .string r]] w fun e w' => e = .returned (.agg #[.string nm, .int .u8 2, .int .i64 n, .string v, .string r]) ∧ Kept (fun _ => False) w w' := by
  have hC1 := fun W => clone_walk v W hv
  have hC2 := fun W => clone_walk r W hr
  have hC3 := fun W => clone_walk nm W hn
  have hE0 := (Box.made w 44 #[.int .i64 n, .string v, .string r]).after_alloc (.cells #[.string ⟨#[]⟩, .int .u8 0, .int .i64 0, .string ⟨#[]⟩, .string ⟨#[]⟩] 60)
  have hR0 := Box.made (w.alloc (.cells #[.int .i64 n, .string v, .string r] 44)) 60 #[.string ⟨#[]⟩, .int .u8 0, .int .i64 0, .string ⟨#[]⟩, .string ⟨#[]⟩]
  rw [World.size_alloc] at hR0
  have hK0 := ((Kept.refl (fun _ => False) w).alloc (.cells #[.int .i64 n, .string v, .string r] 44)).alloc (.cells #[.string ⟨#[]⟩, .int .u8 0, .int .i64 0, .string ⟨#[]⟩, .string ⟨#[]⟩] 60)
  have hne : w.heap.size + 1 ≠ w.heap.size := by omega
  have HNE := Lib.hid hne
  clear hne
  go_enter Tryz.func106, Tryz.ntmps106
  go_wp2_with fail
  generalize (w.alloc (.cells #[.int .i64 n, .string v, .string r] 44)).alloc (.cells #[.string ⟨#[]⟩, .int .u8 0, .int .i64 0, .string ⟨#[]⟩, .string ⟨#[]⟩] 60) = W0 at hE0 hR0 hK0 ⊢
  have HE := Lib.hid (show Box W0.drew w.heap.size 44 #[.int .i64 n, .string v, .string r] from hE0)
  have HR := Lib.hid (show Box W0.drew (w.heap.size + 1) 60 #[.string ⟨#[]⟩, .int .u8 0, .int .i64 0, .string ⟨#[]⟩, .string ⟨#[]⟩] from hR0)
  have HK := Lib.hid hK0.drew
  clear hE0 hR0 hK0
  have e0 := HE.out.cell 0
  have e1 := HE.out.cell 1
  have e2 := HE.out.cell 2
  have u0 := HE.out.free 0
  have u1 := HE.out.free 1
  have u2 := HE.out.free 2
  have r0 := HR.out.cell 0
  have r1 := HR.out.cell 1
  have r2 := HR.out.cell 2
  have r3 := HR.out.cell 3
  have r4 := HR.out.cell 4
  have t0 := HR.out.free 0
  have t1 := HR.out.free 1
  have t2 := HR.out.free 2
  have t3 := HR.out.free 3
  have t4 := HR.out.free 4
  go_region_with ((first
    | (go_at_call 51; (first | (with_reducible refine (hC1 _).mono ?_) | (with_reducible refine (hC2 _).mono ?_)); rintro e w7 ⟨rfl, hk7⟩; have HR := Lib.hid (hk7.box HR.out (fun h => h)); have HE := Lib.hid (hk7.box HE.out (fun h => h)); have HK := Lib.hid (Kept.trans HK.out hk7 (fun _ _ h => h)); have e0 := HE.out.cell 0; have e1 := HE.out.cell 1; have e2 := HE.out.cell 2; have u0 := HE.out.free 0; have u1 := HE.out.free 1; have u2 := HE.out.free 2; have r0 := HR.out.cell 0; have r1 := HR.out.cell 1; have r2 := HR.out.cell 2; have r3 := HR.out.cell 3; have r4 := HR.out.cell 4; have t0 := HR.out.free 0; have t1 := HR.out.free 1; have t2 := HR.out.free 2; have t3 := HR.out.free 3; have t4 := HR.out.free 4; clear hk7)
    | fail))
  all_goals
    have hE9 : Box ((w7.setCell ⟨w.heap.size, 1, none⟩ (.string v)).setCell ⟨w.heap.size, 2, none⟩ (.string r)) w.heap.size 44 #[.int .i64 n, .string v, .string r] := (HE.out.stored 1 (.string v)).stored 2 (.string r)
    have hR9 : Box ((w7.setCell ⟨w.heap.size, 1, none⟩ (.string v)).setCell ⟨w.heap.size, 2, none⟩ (.string r)) (w.heap.size + 1) 60 #[.string ⟨#[]⟩, .int .u8 0, .int .i64 0, .string ⟨#[]⟩, .string ⟨#[]⟩] := box_off (box_off HR.out ⟨w.heap.size, 1, none⟩ HNE.out _) ⟨w.heap.size, 2, none⟩ HNE.out _
    have hK9 : Kept (fun _ => False) w ((w7.setCell ⟨w.heap.size, 1, none⟩ (.string v)).setCell ⟨w.heap.size, 2, none⟩ (.string r)) := (HK.out.setCell (p := ⟨w.heap.size, 1, none⟩) (.inr (Nat.le_refl _)) _).setCell (p := ⟨w.heap.size, 2, none⟩) (.inr (Nat.le_refl _)) _
    generalize (w7.setCell ⟨w.heap.size, 1, none⟩ (.string v)).setCell ⟨w.heap.size, 2, none⟩ (.string r) = W9 at hE9 hR9 hK9 ⊢
    go_wp2_with fail
    have HE := Lib.hid (show Box W9.drew w.heap.size 44 #[.int .i64 n, .string v, .string r] from hE9)
    have HR := Lib.hid (show Box W9.drew (w.heap.size + 1) 60 #[.string ⟨#[]⟩, .int .u8 0, .int .i64 0, .string ⟨#[]⟩, .string ⟨#[]⟩] from hR9)
    have HK := Lib.hid hK9.drew
    clear hE9 hR9 hK9
    have e0 := HE.out.cell 0
    have e1 := HE.out.cell 1
    have e2 := HE.out.cell 2
    have u0 := HE.out.free 0
    have u1 := HE.out.free 1
    have u2 := HE.out.free 2
    have r0 := HR.out.cell 0
    have r1 := HR.out.cell 1
    have r2 := HR.out.cell 2
    have r3 := HR.out.cell 3
    have r4 := HR.out.cell 4
    have t0 := HR.out.free 0
    have t1 := HR.out.free 1
    have t2 := HR.out.free 2
    have t3 := HR.out.free 3
    have t4 := HR.out.free 4
    go_region_with ((first
      | (go_at_call 51; (with_reducible refine (hC3 _).mono ?_); rintro e w8 ⟨rfl, hk8⟩; have HR := Lib.hid (hk8.box HR.out (fun h => h)); have HE := Lib.hid (hk8.box HE.out (fun h => h)); have HK := Lib.hid (Kept.trans HK.out hk8 (fun _ _ h => h)); have e0 := HE.out.cell 0; have e1 := HE.out.cell 1; have e2 := HE.out.cell 2; have u0 := HE.out.free 0; have u1 := HE.out.free 1; have u2 := HE.out.free 2; have r0 := HR.out.cell 0; have r1 := HR.out.cell 1; have r2 := HR.out.cell 2; have r3 := HR.out.cell 3; have r4 := HR.out.cell 4; have t0 := HR.out.free 0; have t1 := HR.out.free 1; have t2 := HR.out.free 2; have t3 := HR.out.free 3; have t4 := HR.out.free 4; clear hk8)
      | fail))
  all_goals
    go_wp2_with fail
    exact bodyPost_ret (dep_result6 rfl _ _ (w.heap.size + 1) _ rfl (five_box HR.out _ _ _ _ _) rfl) rfl ⟨rfl, five HK.out (Nat.le_succ _) _ _ _ _ _⟩
end Go.Proofs.YtpdoeapjdifmbaaGreatDoor
