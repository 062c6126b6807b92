/-
  The walk over the law EvrBack. Conditions: as each theorem states.
-/
import Derived.Test.YtgnmfpcjpfbjoaaDoorTells03
namespace Go.Proofs.YtgnmfpcjpfbjoaaDoor
open Go.RowKit Ver Evr

set_option maxRecDepth 100000 in
set_option maxHeartbeats 2000000 in
theorem back_largeA (n : Int) (v r s : ByteArray) (w : World) (hW : (∀ W : World, Kept (fun _ => False) w W → Calls Tryd.prog 8 #[] W fun e w' => e = .returned (.bool true) ∧ Kept (fun _ => False) W w')) (hA : (∀ W : World, Calls Tryd.prog 15 #[.agg #[.int .i64 n, .string v, .string r]] W fun e w' => e = .returned (.bool true) ∧ Kept (fun _ => False) W w')) :
    Calls Tryd.prog 5 #[.agg #[.int .i64 n, .string v, .string r], .string s] w fun e w' => e = .returned (.bool true) ∧ Kept (fun _ => False) w w' := by
  have HA := Lib.hid (Box.made w 30 #[.int .i64 n, .string v, .string r])
  have HK := Lib.hid ((Kept.refl (fun _ => False) w).alloc (.cells #[.int .i64 n, .string v, .string r] 30))
  go_enter Tryd.func5, Tryd.ntmps5
  go_wp2_with (first
    | (go_at_call 8; with_reducible refine (hW _ HK.out).mono ?_; rintro e w5 ⟨rfl, hk5⟩; have HA := Lib.hid ((hk5).box HA.out (fun h => h)); have ax0 := HA.out.cell 0; have ax1 := HA.out.cell 1; have ax2 := HA.out.cell 2; have HK := Lib.hid (Kept.trans HK.out (hk5) (fun _ _ h => h)); clear hk5)
    | (go_at_call 15; with_reducible refine (hA _).mono ?_; rintro e w5 ⟨rfl, hk5⟩; have HA := Lib.hid ((hk5).box HA.out (fun h => h)); have ax0 := HA.out.cell 0; have ax1 := HA.out.cell 1; have ax2 := HA.out.cell 2; have HK := Lib.hid (Kept.trans HK.out (hk5) (fun _ _ h => h)); clear hk5)
    | fail)
  all_goals go_ret
  all_goals exact ⟨rfl, HK.out⟩
set_option maxRecDepth 100000 in
set_option maxHeartbeats 2000000 in
theorem back_largeS (n : Int) (v r s : ByteArray) (w : World) (hW : (∀ W : World, Kept (fun _ => False) w W → Calls Tryd.prog 8 #[] W fun e w' => e = .returned (.bool true) ∧ Kept (fun _ => False) W w')) (hA : (∀ W : World, Calls Tryd.prog 15 #[.agg #[.int .i64 n, .string v, .string r]] W fun e w' => e = .returned (.bool false) ∧ Kept (fun _ => False) W w')) (n1 : (1000 : Int) < (s.size : Int)) :
    Calls Tryd.prog 5 #[.agg #[.int .i64 n, .string v, .string r], .string s] w fun e w' => e = .returned (.bool true) ∧ Kept (fun _ => False) w w' := by
  have HA := Lib.hid (Box.made w 30 #[.int .i64 n, .string v, .string r])
  have HK := Lib.hid ((Kept.refl (fun _ => False) w).alloc (.cells #[.int .i64 n, .string v, .string r] 30))
  go_enter Tryd.func5, Tryd.ntmps5
  go_wp2_with (first
    | (go_at_call 8; with_reducible refine (hW _ HK.out).mono ?_; rintro e w5 ⟨rfl, hk5⟩; have HA := Lib.hid ((hk5).box HA.out (fun h => h)); have ax0 := HA.out.cell 0; have ax1 := HA.out.cell 1; have ax2 := HA.out.cell 2; have HK := Lib.hid (Kept.trans HK.out (hk5) (fun _ _ h => h)); clear hk5)
    | (go_at_call 15; with_reducible refine (hA _).mono ?_; rintro e w5 ⟨rfl, hk5⟩; have HA := Lib.hid ((hk5).box HA.out (fun h => h)); have ax0 := HA.out.cell 0; have ax1 := HA.out.cell 1; have ax2 := HA.out.cell 2; have HK := Lib.hid (Kept.trans HK.out (hk5) (fun _ _ h => h)); clear hk5)
    | fail)
  all_goals go_ret
  all_goals exact ⟨rfl, HK.out⟩
set_option maxRecDepth 100000 in
set_option maxHeartbeats 2000000 in
theorem back_yy (n : Int) (v r s : ByteArray) (t : ByteArray) (k : Int) (q p : ByteArray) (w : World) (hW : (∀ W : World, Kept (fun _ => False) w W → Calls Tryd.prog 8 #[] W fun e w' => e = .returned (.bool true) ∧ Kept (fun _ => False) W w')) (hA : (∀ W : World, Calls Tryd.prog 15 #[.agg #[.int .i64 n, .string v, .string r]] W fun e w' => e = .returned (.bool false) ∧ Kept (fun _ => False) W w')) (n1 : ¬ ((1000 : Int) < (s.size : Int))) (hS : (∀ W : World, Kept (fun _ => False) w W → Calls Tryd.prog 11 #[.agg #[.int .i64 n, .string v, .string r]] W fun e w' => e = .returned (.tuple #[.string t, .int .i64 0]) ∧ Kept (fun _ => False) W w')) (hM : (∀ W : World, Calls Tryd.prog 13 #[.agg #[.int .i64 n, .string v, .string r], .bool true] W fun e w' => e = .returned (.bool true) ∧ Kept (fun _ => False) W w')) (hO : (∀ W : World, Kept (fun _ => False) w W → Calls Tryd.prog 12 #[.string t] W fun e w' => e = .returned (.agg #[.int .i64 n, .string v, .string r]) ∧ Kept (fun _ => False) W w')) (hP : (∀ W : World, Kept (fun _ => False) w W → Calls Tryd.prog 17 #[.string s] W fun e w' => e = .returned (.tuple #[.agg #[.int .i64 k, .string q, .string p], .int .i64 0]) ∧ Kept (fun _ => False) W w')) (hS2 : (∀ W : World, Kept (fun _ => False) w W → Calls Tryd.prog 11 #[.agg #[.int .i64 k, .string q, .string p]] W fun e w' => e = .returned (.tuple #[.string s, .int .i64 0]) ∧ Kept (fun _ => False) W w')) (hM2 : (∀ W : World, Calls Tryd.prog 13 #[.agg #[.int .i64 k, .string q, .string p], .bool true] W fun e w' => e = .returned (.bool true) ∧ Kept (fun _ => False) W w')) :
    Calls Tryd.prog 5 #[.agg #[.int .i64 n, .string v, .string r], .string s] w fun e w' => e = .returned (.bool true) ∧ Kept (fun _ => False) w w' := by
  have HA := Lib.hid (Box.made w 30 #[.int .i64 n, .string v, .string r])
  have HK := Lib.hid ((Kept.refl (fun _ => False) w).alloc (.cells #[.int .i64 n, .string v, .string r] 30))
  go_enter Tryd.func5, Tryd.ntmps5
  go_wp2_with (first
    | (go_at_call 8; with_reducible refine (hW _ HK.out).mono ?_; rintro e w5 ⟨rfl, hk5⟩; have HA := Lib.hid ((hk5).box HA.out (fun h => h)); have ax0 := HA.out.cell 0; have ax1 := HA.out.cell 1; have ax2 := HA.out.cell 2; have HK := Lib.hid (Kept.trans HK.out (hk5) (fun _ _ h => h)); clear hk5)
    | (go_at_call 15; with_reducible refine (hA _).mono ?_; rintro e w5 ⟨rfl, hk5⟩; have HA := Lib.hid ((hk5).box HA.out (fun h => h)); have ax0 := HA.out.cell 0; have ax1 := HA.out.cell 1; have ax2 := HA.out.cell 2; have HK := Lib.hid (Kept.trans HK.out (hk5) (fun _ _ h => h)); clear hk5)
    | (go_at_call 11; with_reducible refine (hS _ HK.out).mono ?_; rintro e w5 ⟨rfl, hk5⟩; have HA := Lib.hid ((hk5).box HA.out (fun h => h)); have ax0 := HA.out.cell 0; have ax1 := HA.out.cell 1; have ax2 := HA.out.cell 2; have HK := Lib.hid (Kept.trans HK.out (hk5) (fun _ _ h => h)); clear hk5)
    | (go_at_call 13; with_reducible refine (hM _).mono ?_; rintro e w5 ⟨rfl, hk5⟩; have HA := Lib.hid ((hk5).box HA.out (fun h => h)); have ax0 := HA.out.cell 0; have ax1 := HA.out.cell 1; have ax2 := HA.out.cell 2; have HK := Lib.hid (Kept.trans HK.out (hk5) (fun _ _ h => h)); clear hk5)
    | (go_at_call 12; with_reducible refine (hO _ HK.out).mono ?_; rintro e w5 ⟨rfl, hk5⟩; have HA := Lib.hid ((hk5).box HA.out (fun h => h)); have ax0 := HA.out.cell 0; have ax1 := HA.out.cell 1; have ax2 := HA.out.cell 2; have HK := Lib.hid (Kept.trans HK.out (hk5) (fun _ _ h => h)); clear hk5)
    | fail)
  obtain ⟨T, F, t0, ht0, hFk, hFs⟩ := class_of w5
  have fA := fun t => (hFk t).box HA.out (fun h => h)
  have qA0 : ∀ t, (F t).cell? ⟨w.heap.size, 0, none⟩ = some (.int .i64 n) := fun t => (fA t).cell 0
  have qA1 : ∀ t, (F t).cell? ⟨w.heap.size, 1, none⟩ = some (.string v) := fun t => (fA t).cell 1
  have qA2 : ∀ t, (F t).cell? ⟨w.heap.size, 2, none⟩ = some (.string r) := fun t => (fA t).cell 2
  have HFK := Lib.hid hFk
  have HFS := Lib.hid hFs
  clear hFk hFs fA
  have hne : Nonempty T := ⟨t0⟩
  refine wp_region_class F t0 ht0 (by kernel_rfl) (by kernel_rfl) ?_
  repeat (go_big_quiet_step (first | (go_at_call 13; with_reducible exact class_call HFS.out (hM _)) | (go_at_call 12; with_reducible exact class_call HFS.out (hO _ (HK.out.trans (HFK.out _) (fun _ _ h => h))))))
  refine wpQuiet_nil ?_
  rintro _ ⟨tz, rfl⟩
  have HA := Lib.hid ((HFK.out tz).box HA.out (fun h => h))
  have HK := Lib.hid (Kept.trans HK.out (HFK.out tz) (fun _ _ h => h))
  go_wp2_with (first
    | (go_at_call 17; with_reducible refine (hP _ HK.out).mono ?_; rintro e w6 ⟨rfl, hk6⟩; have HK := Lib.hid (Kept.trans HK.out hk6 (fun _ _ h => h)); clear hk6)
    | (go_at_call 11; with_reducible refine (hS2 _ (HK.out.alloc _)).mono ?_; rintro e w7 ⟨rfl, hk7⟩; have HX := Lib.hid (hk7.box (Box.made w6 30 #[.int .i64 k, .string q, .string p]) (fun h => h)); have xx0 := HX.out.cell 0; have xx1 := HX.out.cell 1; have xx2 := HX.out.cell 2; have HK := Lib.hid (Kept.trans (HK.out.alloc _) hk7 (fun _ _ h => h)); clear hk7)
    | (go_at_call 13; with_reducible refine (hM2 _).mono ?_; rintro e w8 ⟨rfl, hk8⟩; have HK := Lib.hid (Kept.trans HK.out hk8 (fun _ _ h => h)); clear hk8)
    | fail)
  all_goals go_ret
  all_goals exact ⟨rfl, HK.out⟩
set_option maxRecDepth 100000 in
set_option maxHeartbeats 2000000 in
theorem back_yn (n : Int) (v r s : ByteArray) (t : ByteArray) (w : World) (hW : (∀ W : World, Kept (fun _ => False) w W → Calls Tryd.prog 8 #[] W fun e w' => e = .returned (.bool true) ∧ Kept (fun _ => False) W w')) (hA : (∀ W : World, Calls Tryd.prog 15 #[.agg #[.int .i64 n, .string v, .string r]] W fun e w' => e = .returned (.bool false) ∧ Kept (fun _ => False) W w')) (n1 : ¬ ((1000 : Int) < (s.size : Int))) (hS : (∀ W : World, Kept (fun _ => False) w W → Calls Tryd.prog 11 #[.agg #[.int .i64 n, .string v, .string r]] W fun e w' => e = .returned (.tuple #[.string t, .int .i64 0]) ∧ Kept (fun _ => False) W w')) (hM : (∀ W : World, Calls Tryd.prog 13 #[.agg #[.int .i64 n, .string v, .string r], .bool true] W fun e w' => e = .returned (.bool true) ∧ Kept (fun _ => False) W w')) (hO : (∀ W : World, Kept (fun _ => False) w W → Calls Tryd.prog 12 #[.string t] W fun e w' => e = .returned (.agg #[.int .i64 n, .string v, .string r]) ∧ Kept (fun _ => False) W w')) (hP : (∀ W : World, Kept (fun _ => False) w W → Calls Tryd.prog 17 #[.string s] W fun e w' => e = .returned (.tuple #[.agg #[.int .i64 0, .string ⟨#[]⟩, .string ⟨#[]⟩], .int .i64 4]) ∧ Kept (fun _ => False) W w')) :
    Calls Tryd.prog 5 #[.agg #[.int .i64 n, .string v, .string r], .string s] w fun e w' => e = .returned (.bool true) ∧ Kept (fun _ => False) w w' := by
  have HA := Lib.hid (Box.made w 30 #[.int .i64 n, .string v, .string r])
  have HK := Lib.hid ((Kept.refl (fun _ => False) w).alloc (.cells #[.int .i64 n, .string v, .string r] 30))
  go_enter Tryd.func5, Tryd.ntmps5
  go_wp2_with (first
    | (go_at_call 8; with_reducible refine (hW _ HK.out).mono ?_; rintro e w5 ⟨rfl, hk5⟩; have HA := Lib.hid ((hk5).box HA.out (fun h => h)); have ax0 := HA.out.cell 0; have ax1 := HA.out.cell 1; have ax2 := HA.out.cell 2; have HK := Lib.hid (Kept.trans HK.out (hk5) (fun _ _ h => h)); clear hk5)
    | (go_at_call 15; with_reducible refine (hA _).mono ?_; rintro e w5 ⟨rfl, hk5⟩; have HA := Lib.hid ((hk5).box HA.out (fun h => h)); have ax0 := HA.out.cell 0; have ax1 := HA.out.cell 1; have ax2 := HA.out.cell 2; have HK := Lib.hid (Kept.trans HK.out (hk5) (fun _ _ h => h)); clear hk5)
    | (go_at_call 11; with_reducible refine (hS _ HK.out).mono ?_; rintro e w5 ⟨rfl, hk5⟩; have HA := Lib.hid ((hk5).box HA.out (fun h => h)); have ax0 := HA.out.cell 0; have ax1 := HA.out.cell 1; have ax2 := HA.out.cell 2; have HK := Lib.hid (Kept.trans HK.out (hk5) (fun _ _ h => h)); clear hk5)
    | (go_at_call 13; with_reducible refine (hM _).mono ?_; rintro e w5 ⟨rfl, hk5⟩; have HA := Lib.hid ((hk5).box HA.out (fun h => h)); have ax0 := HA.out.cell 0; have ax1 := HA.out.cell 1; have ax2 := HA.out.cell 2; have HK := Lib.hid (Kept.trans HK.out (hk5) (fun _ _ h => h)); clear hk5)
    | (go_at_call 12; with_reducible refine (hO _ HK.out).mono ?_; rintro e w5 ⟨rfl, hk5⟩; have HA := Lib.hid ((hk5).box HA.out (fun h => h)); have ax0 := HA.out.cell 0; have ax1 := HA.out.cell 1; have ax2 := HA.out.cell 2; have HK := Lib.hid (Kept.trans HK.out (hk5) (fun _ _ h => h)); clear hk5)
    | fail)
  obtain ⟨T, F, t0, ht0, hFk, hFs⟩ := class_of w5
  have fA := fun t => (hFk t).box HA.out (fun h => h)
  have qA0 : ∀ t, (F t).cell? ⟨w.heap.size, 0, none⟩ = some (.int .i64 n) := fun t => (fA t).cell 0
  have qA1 : ∀ t, (F t).cell? ⟨w.heap.size, 1, none⟩ = some (.string v) := fun t => (fA t).cell 1
  have qA2 : ∀ t, (F t).cell? ⟨w.heap.size, 2, none⟩ = some (.string r) := fun t => (fA t).cell 2
  have HFK := Lib.hid hFk
  have HFS := Lib.hid hFs
  clear hFk hFs fA
  have hne : Nonempty T := ⟨t0⟩
  refine wp_region_class F t0 ht0 (by kernel_rfl) (by kernel_rfl) ?_
  repeat (go_big_quiet_step (first | (go_at_call 13; with_reducible exact class_call HFS.out (hM _)) | (go_at_call 12; with_reducible exact class_call HFS.out (hO _ (HK.out.trans (HFK.out _) (fun _ _ h => h))))))
  refine wpQuiet_nil ?_
  rintro _ ⟨tz, rfl⟩
  have HA := Lib.hid ((HFK.out tz).box HA.out (fun h => h))
  have HK := Lib.hid (Kept.trans HK.out (HFK.out tz) (fun _ _ h => h))
  go_wp2_with (first
    | (go_at_call 17; with_reducible refine (hP _ HK.out).mono ?_; rintro e w6 ⟨rfl, hk6⟩; have HK := Lib.hid (Kept.trans HK.out hk6 (fun _ _ h => h)); clear hk6)
    | fail)
  go_ret
  exact ⟨rfl, HK.out.alloc _⟩
set_option maxRecDepth 100000 in
set_option maxHeartbeats 2000000 in
theorem back_ny (n : Int) (v r s : ByteArray) (k : Int) (q p : ByteArray) (w : World) (hW : (∀ W : World, Kept (fun _ => False) w W → Calls Tryd.prog 8 #[] W fun e w' => e = .returned (.bool true) ∧ Kept (fun _ => False) W w')) (hA : (∀ W : World, Calls Tryd.prog 15 #[.agg #[.int .i64 n, .string v, .string r]] W fun e w' => e = .returned (.bool false) ∧ Kept (fun _ => False) W w')) (n1 : ¬ ((1000 : Int) < (s.size : Int))) (hS : (∀ W : World, Kept (fun _ => False) w W → Calls Tryd.prog 11 #[.agg #[.int .i64 n, .string v, .string r]] W fun e w' => e = .returned (.tuple #[.string ⟨#[]⟩, .int .i64 4]) ∧ Kept (fun _ => False) W w')) (hM : (∀ W : World, Calls Tryd.prog 13 #[.agg #[.int .i64 n, .string v, .string r], .bool true] W fun e w' => e = .returned (.bool false) ∧ Kept (fun _ => False) W w')) (hP : (∀ W : World, Kept (fun _ => False) w W → Calls Tryd.prog 17 #[.string s] W fun e w' => e = .returned (.tuple #[.agg #[.int .i64 k, .string q, .string p], .int .i64 0]) ∧ Kept (fun _ => False) W w')) (hS2 : (∀ W : World, Kept (fun _ => False) w W → Calls Tryd.prog 11 #[.agg #[.int .i64 k, .string q, .string p]] W fun e w' => e = .returned (.tuple #[.string s, .int .i64 0]) ∧ Kept (fun _ => False) W w')) (hM2 : (∀ W : World, Calls Tryd.prog 13 #[.agg #[.int .i64 k, .string q, .string p], .bool true] W fun e w' => e = .returned (.bool true) ∧ Kept (fun _ => False) W w')) :
    Calls Tryd.prog 5 #[.agg #[.int .i64 n, .string v, .string r], .string s] w fun e w' => e = .returned (.bool true) ∧ Kept (fun _ => False) w w' := by
  have HA := Lib.hid (Box.made w 30 #[.int .i64 n, .string v, .string r])
  have HK := Lib.hid ((Kept.refl (fun _ => False) w).alloc (.cells #[.int .i64 n, .string v, .string r] 30))
  go_enter Tryd.func5, Tryd.ntmps5
  go_wp2_with (first
    | (go_at_call 8; with_reducible refine (hW _ HK.out).mono ?_; rintro e w5 ⟨rfl, hk5⟩; have HA := Lib.hid ((hk5).box HA.out (fun h => h)); have ax0 := HA.out.cell 0; have ax1 := HA.out.cell 1; have ax2 := HA.out.cell 2; have HK := Lib.hid (Kept.trans HK.out (hk5) (fun _ _ h => h)); clear hk5)
    | (go_at_call 15; with_reducible refine (hA _).mono ?_; rintro e w5 ⟨rfl, hk5⟩; have HA := Lib.hid ((hk5).box HA.out (fun h => h)); have ax0 := HA.out.cell 0; have ax1 := HA.out.cell 1; have ax2 := HA.out.cell 2; have HK := Lib.hid (Kept.trans HK.out (hk5) (fun _ _ h => h)); clear hk5)
    | (go_at_call 11; with_reducible refine (hS _ HK.out).mono ?_; rintro e w5 ⟨rfl, hk5⟩; have HA := Lib.hid ((hk5).box HA.out (fun h => h)); have ax0 := HA.out.cell 0; have ax1 := HA.out.cell 1; have ax2 := HA.out.cell 2; have HK := Lib.hid (Kept.trans HK.out (hk5) (fun _ _ h => h)); clear hk5)
    | (go_at_call 13; with_reducible refine (hM _).mono ?_; rintro e w5 ⟨rfl, hk5⟩; have HA := Lib.hid ((hk5).box HA.out (fun h => h)); have ax0 := HA.out.cell 0; have ax1 := HA.out.cell 1; have ax2 := HA.out.cell 2; have HK := Lib.hid (Kept.trans HK.out (hk5) (fun _ _ h => h)); clear hk5)
    | fail)
  obtain ⟨T, F, t0, ht0, hFk, hFs⟩ := class_of w5
  have fA := fun t => (hFk t).box HA.out (fun h => h)
  have qA0 : ∀ t, (F t).cell? ⟨w.heap.size, 0, none⟩ = some (.int .i64 n) := fun t => (fA t).cell 0
  have qA1 : ∀ t, (F t).cell? ⟨w.heap.size, 1, none⟩ = some (.string v) := fun t => (fA t).cell 1
  have qA2 : ∀ t, (F t).cell? ⟨w.heap.size, 2, none⟩ = some (.string r) := fun t => (fA t).cell 2
  have HFK := Lib.hid hFk
  have HFS := Lib.hid hFs
  clear hFk hFs fA
  have hne : Nonempty T := ⟨t0⟩
  refine wp_region_class F t0 ht0 (by kernel_rfl) (by kernel_rfl) ?_
  repeat (go_big_quiet_step (first | (go_at_call 13; with_reducible exact class_call HFS.out (hM _))))
  refine wpQuiet_nil ?_
  rintro _ ⟨tz, rfl⟩
  have HA := Lib.hid ((HFK.out tz).box HA.out (fun h => h))
  have HK := Lib.hid (Kept.trans HK.out (HFK.out tz) (fun _ _ h => h))
  go_wp2_with (first
    | (go_at_call 17; with_reducible refine (hP _ HK.out).mono ?_; rintro e w6 ⟨rfl, hk6⟩; have HK := Lib.hid (Kept.trans HK.out hk6 (fun _ _ h => h)); clear hk6)
    | (go_at_call 11; with_reducible refine (hS2 _ (HK.out.alloc _)).mono ?_; rintro e w7 ⟨rfl, hk7⟩; have HX := Lib.hid (hk7.box (Box.made w6 30 #[.int .i64 k, .string q, .string p]) (fun h => h)); have xx0 := HX.out.cell 0; have xx1 := HX.out.cell 1; have xx2 := HX.out.cell 2; have HK := Lib.hid (Kept.trans (HK.out.alloc _) hk7 (fun _ _ h => h)); clear hk7)
    | (go_at_call 13; with_reducible refine (hM2 _).mono ?_; rintro e w8 ⟨rfl, hk8⟩; have HK := Lib.hid (Kept.trans HK.out hk8 (fun _ _ h => h)); clear hk8)
    | fail)
  all_goals go_ret
  all_goals exact ⟨rfl, HK.out⟩
set_option maxRecDepth 100000 in
set_option maxHeartbeats 2000000 in
theorem back_nn (n : Int) (v r s : ByteArray) (w : World) (hW : (∀ W : World, Kept (fun _ => False) w W → Calls Tryd.prog 8 #[] W fun e w' => e = .returned (.bool true) ∧ Kept (fun _ => False) W w')) (hA : (∀ W : World, Calls Tryd.prog 15 #[.agg #[.int .i64 n, .string v, .string r]] W fun e w' => e = .returned (.bool false) ∧ Kept (fun _ => False) W w')) (n1 : ¬ ((1000 : Int) < (s.size : Int))) (hS : (∀ W : World, Kept (fun _ => False) w W → Calls Tryd.prog 11 #[.agg #[.int .i64 n, .string v, .string r]] W fun e w' => e = .returned (.tuple #[.string ⟨#[]⟩, .int .i64 4]) ∧ Kept (fun _ => False) W w')) (hM : (∀ W : World, Calls Tryd.prog 13 #[.agg #[.int .i64 n, .string v, .string r], .bool true] W fun e w' => e = .returned (.bool false) ∧ Kept (fun _ => False) W w')) (hP : (∀ W : World, Kept (fun _ => False) w W → Calls Tryd.prog 17 #[.string s] W fun e w' => e = .returned (.tuple #[.agg #[.int .i64 0, .string ⟨#[]⟩, .string ⟨#[]⟩], .int .i64 4]) ∧ Kept (fun _ => False) W w')) :
    Calls Tryd.prog 5 #[.agg #[.int .i64 n, .string v, .string r], .string s] w fun e w' => e = .returned (.bool true) ∧ Kept (fun _ => False) w w' := by
  have HA := Lib.hid (Box.made w 30 #[.int .i64 n, .string v, .string r])
  have HK := Lib.hid ((Kept.refl (fun _ => False) w).alloc (.cells #[.int .i64 n, .string v, .string r] 30))
  go_enter Tryd.func5, Tryd.ntmps5
  go_wp2_with (first
    | (go_at_call 8; with_reducible refine (hW _ HK.out).mono ?_; rintro e w5 ⟨rfl, hk5⟩; have HA := Lib.hid ((hk5).box HA.out (fun h => h)); have ax0 := HA.out.cell 0; have ax1 := HA.out.cell 1; have ax2 := HA.out.cell 2; have HK := Lib.hid (Kept.trans HK.out (hk5) (fun _ _ h => h)); clear hk5)
    | (go_at_call 15; with_reducible refine (hA _).mono ?_; rintro e w5 ⟨rfl, hk5⟩; have HA := Lib.hid ((hk5).box HA.out (fun h => h)); have ax0 := HA.out.cell 0; have ax1 := HA.out.cell 1; have ax2 := HA.out.cell 2; have HK := Lib.hid (Kept.trans HK.out (hk5) (fun _ _ h => h)); clear hk5)
    | (go_at_call 11; with_reducible refine (hS _ HK.out).mono ?_; rintro e w5 ⟨rfl, hk5⟩; have HA := Lib.hid ((hk5).box HA.out (fun h => h)); have ax0 := HA.out.cell 0; have ax1 := HA.out.cell 1; have ax2 := HA.out.cell 2; have HK := Lib.hid (Kept.trans HK.out (hk5) (fun _ _ h => h)); clear hk5)
    | (go_at_call 13; with_reducible refine (hM _).mono ?_; rintro e w5 ⟨rfl, hk5⟩; have HA := Lib.hid ((hk5).box HA.out (fun h => h)); have ax0 := HA.out.cell 0; have ax1 := HA.out.cell 1; have ax2 := HA.out.cell 2; have HK := Lib.hid (Kept.trans HK.out (hk5) (fun _ _ h => h)); clear hk5)
    | fail)
  obtain ⟨T, F, t0, ht0, hFk, hFs⟩ := class_of w5
  have fA := fun t => (hFk t).box HA.out (fun h => h)
  have qA0 : ∀ t, (F t).cell? ⟨w.heap.size, 0, none⟩ = some (.int .i64 n) := fun t => (fA t).cell 0
  have qA1 : ∀ t, (F t).cell? ⟨w.heap.size, 1, none⟩ = some (.string v) := fun t => (fA t).cell 1
  have qA2 : ∀ t, (F t).cell? ⟨w.heap.size, 2, none⟩ = some (.string r) := fun t => (fA t).cell 2
  have HFK := Lib.hid hFk
  have HFS := Lib.hid hFs
  clear hFk hFs fA
  have hne : Nonempty T := ⟨t0⟩
  refine wp_region_class F t0 ht0 (by kernel_rfl) (by kernel_rfl) ?_
  repeat (go_big_quiet_step (first | (go_at_call 13; with_reducible exact class_call HFS.out (hM _))))
  refine wpQuiet_nil ?_
  rintro _ ⟨tz, rfl⟩
  have HA := Lib.hid ((HFK.out tz).box HA.out (fun h => h))
  have HK := Lib.hid (Kept.trans HK.out (HFK.out tz) (fun _ _ h => h))
  go_wp2_with (first
    | (go_at_call 17; with_reducible refine (hP _ HK.out).mono ?_; rintro e w6 ⟨rfl, hk6⟩; have HK := Lib.hid (Kept.trans HK.out hk6 (fun _ _ h => h)); clear hk6)
    | fail)
  go_ret
  exact ⟨rfl, HK.out.alloc _⟩
end Go.Proofs.YtgnmfpcjpfbjoaaDoor
