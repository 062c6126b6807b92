/-
  The walks over the program's own text of layer 4: an EVR in a range, two ranges that meet. Conditions: as each theorem states.
-/
import Derived.Test.YtjjjelgjjdgldaaDoorSpan4c
namespace Go.Proofs.YtjjjelgjjdgldaaDoor
open Go.RowKit Go.Maps Span Evr

section
variable (nm : ByteArray) (o : Nat) (n : Int) (v r : ByteArray) (m : Int) (u x : ByteArray) (w : World) (ho : o < 256)
include ho
set_option maxRecDepth 100000 in
set_option maxHeartbeats 1000000 in
theorem has_any (h : o % 8 = 0) : Calls Tryd.prog 20 #[depV nm o n v r, .agg #[.int .i64 m, .string u, .string x]] w fun e w' => e = .returned (.bool true) ∧ Kept (fun _ => False) w w' := by
  have A1 := any_yes nm o n v r ho h
  have C1 : ∀ W : World, True := fun _ => trivial
  have bD := ((Box.made w 31 #[.string nm, .int .u8 (o : Int), .int .i64 n, .string v, .string r]).after_alloc (.cells #[.int .i64 m, .string u, .string x] 29)).after_alloc (.cells #[.int .u8 1, .int .u8 2, .int .u8 4] 50)
  have bE := (Box.made (w.alloc (.cells #[.string nm, .int .u8 (o : Int), .int .i64 n, .string v, .string r] 31)) 29 #[.int .i64 m, .string u, .string x]).after_alloc (.cells #[.int .u8 1, .int .u8 2, .int .u8 4] 50)
  have bS := Box.made ((w.alloc (.cells #[.string nm, .int .u8 (o : Int), .int .i64 n, .string v, .string r] 31)).alloc (.cells #[.int .i64 m, .string u, .string x] 29)) 50 #[.int .u8 1, .int .u8 2, .int .u8 4]
  rw [World.size_alloc] at bE
  rw [World.size_alloc, World.size_alloc] at bS
  have hk0 : Kept (fun _ => False) w (((w.alloc (.cells #[.string nm, .int .u8 (o : Int), .int .i64 n, .string v, .string r] 31)).alloc (.cells #[.int .i64 m, .string u, .string x] 29)).alloc (.cells #[.int .u8 1, .int .u8 2, .int .u8 4] 50)) := (((Kept.refl _ _).alloc _).alloc _).alloc _
  obtain ⟨T, F, t0, ht0, hFk, hFs⟩ := class_of (((w.alloc (.cells #[.string nm, .int .u8 (o : Int), .int .i64 n, .string v, .string r] 31)).alloc (.cells #[.int .i64 m, .string u, .string x] 29)).alloc (.cells #[.int .u8 1, .int .u8 2, .int .u8 4] 50))
  have qd0 : ∀ t, (F t).cell? ⟨w.heap.size, 0, none⟩ = some (.string nm) := fun t => ((hFk t).box bD (fun h => h)).cell 0
  have qd1 : ∀ t, (F t).cell? ⟨w.heap.size, 1, none⟩ = some (.int .u8 (o : Int)) := fun t => ((hFk t).box bD (fun h => h)).cell 1
  have qd2 : ∀ t, (F t).cell? ⟨w.heap.size, 2, none⟩ = some (.int .i64 n) := fun t => ((hFk t).box bD (fun h => h)).cell 2
  have qd3 : ∀ t, (F t).cell? ⟨w.heap.size, 3, none⟩ = some (.string v) := fun t => ((hFk t).box bD (fun h => h)).cell 3
  have qd4 : ∀ t, (F t).cell? ⟨w.heap.size, 4, none⟩ = some (.string r) := fun t => ((hFk t).box bD (fun h => h)).cell 4
  have qe0 : ∀ t, (F t).cell? ⟨w.heap.size + 1, 0, none⟩ = some (.int .i64 m) := fun t => ((hFk t).box bE (fun h => h)).cell 0
  have qe1 : ∀ t, (F t).cell? ⟨w.heap.size + 1, 1, none⟩ = some (.string u) := fun t => ((hFk t).box bE (fun h => h)).cell 1
  have qe2 : ∀ t, (F t).cell? ⟨w.heap.size + 1, 2, none⟩ = some (.string x) := fun t => ((hFk t).box bE (fun h => h)).cell 2
  have qs0 : ∀ t, (F t).cell? ⟨w.heap.size + 1 + 1, 0, none⟩ = some (.int .u8 1) := fun t => ((hFk t).box bS (fun h => h)).cell 0
  have qs1 : ∀ t, (F t).cell? ⟨w.heap.size + 1 + 1, 1, none⟩ = some (.int .u8 2) := fun t => ((hFk t).box bS (fun h => h)).cell 1
  have qs2 : ∀ t, (F t).cell? ⟨w.heap.size + 1 + 1, 2, none⟩ = some (.int .u8 4) := fun t => ((hFk t).box bS (fun h => h)).cell 2
  have HFK := Lib.hid hFk
  have HFS := Lib.hid hFs
  have HK := Lib.hid hk0
  clear hFk hFs bD bE bS hk0
  have hne : Nonempty T := ⟨t0⟩
  go_enter Tryd.func20, Tryd.ntmps20
  go_wp2_with fail
  refine wp_region_class F t0 ht0 (by kernel_rfl) (by kernel_rfl) ?_
  repeat (go_big_quiet_step (first
    | (go_at_call 26; with_reducible exact class_call HFS.out (A1 _))
    | (go_at_call 22; with_reducible exact class_call HFS.out (C1 _))))
  refine wpQuiet_nil ?_
  rintro _ ⟨tz, rfl⟩
  have hkz := HK.out.trans (HFK.out tz) (fun _ _ h => h)
  go_wp2_with fail
  go_ret
  exact ⟨rfl, hkz⟩
set_option maxRecDepth 100000 in
set_option maxHeartbeats 1000000 in
theorem has_less (h : o % 8 ≠ 0) (C1 : ∀ W, Calls Tryd.prog 22 #[.agg #[.int .i64 m, .string u, .string x], .agg #[.int .i64 n, .string v, .string r]] W fun e w' => e = .returned (.int .i64 (-1)) ∧ Kept (fun _ => False) W w') :
    Calls Tryd.prog 20 #[depV nm o n v r, .agg #[.int .i64 m, .string u, .string x]] w fun e w' => e = .returned (.bool (bits .and .u8 (o : Int) 1 != 0)) ∧ Kept (fun _ => False) w w' := by
  have A1 := any_no nm o n v r ho h
  have bD := ((Box.made w 31 #[.string nm, .int .u8 (o : Int), .int .i64 n, .string v, .string r]).after_alloc (.cells #[.int .i64 m, .string u, .string x] 29)).after_alloc (.cells #[.int .u8 1, .int .u8 2, .int .u8 4] 50)
  have bE := (Box.made (w.alloc (.cells #[.string nm, .int .u8 (o : Int), .int .i64 n, .string v, .string r] 31)) 29 #[.int .i64 m, .string u, .string x]).after_alloc (.cells #[.int .u8 1, .int .u8 2, .int .u8 4] 50)
  have bS := Box.made ((w.alloc (.cells #[.string nm, .int .u8 (o : Int), .int .i64 n, .string v, .string r] 31)).alloc (.cells #[.int .i64 m, .string u, .string x] 29)) 50 #[.int .u8 1, .int .u8 2, .int .u8 4]
  rw [World.size_alloc] at bE
  rw [World.size_alloc, World.size_alloc] at bS
  have hk0 : Kept (fun _ => False) w (((w.alloc (.cells #[.string nm, .int .u8 (o : Int), .int .i64 n, .string v, .string r] 31)).alloc (.cells #[.int .i64 m, .string u, .string x] 29)).alloc (.cells #[.int .u8 1, .int .u8 2, .int .u8 4] 50)) := (((Kept.refl _ _).alloc _).alloc _).alloc _
  obtain ⟨T, F, t0, ht0, hFk, hFs⟩ := class_of (((w.alloc (.cells #[.string nm, .int .u8 (o : Int), .int .i64 n, .string v, .string r] 31)).alloc (.cells #[.int .i64 m, .string u, .string x] 29)).alloc (.cells #[.int .u8 1, .int .u8 2, .int .u8 4] 50))
  have qd0 : ∀ t, (F t).cell? ⟨w.heap.size, 0, none⟩ = some (.string nm) := fun t => ((hFk t).box bD (fun h => h)).cell 0
  have qd1 : ∀ t, (F t).cell? ⟨w.heap.size, 1, none⟩ = some (.int .u8 (o : Int)) := fun t => ((hFk t).box bD (fun h => h)).cell 1
  have qd2 : ∀ t, (F t).cell? ⟨w.heap.size, 2, none⟩ = some (.int .i64 n) := fun t => ((hFk t).box bD (fun h => h)).cell 2
  have qd3 : ∀ t, (F t).cell? ⟨w.heap.size, 3, none⟩ = some (.string v) := fun t => ((hFk t).box bD (fun h => h)).cell 3
  have qd4 : ∀ t, (F t).cell? ⟨w.heap.size, 4, none⟩ = some (.string r) := fun t => ((hFk t).box bD (fun h => h)).cell 4
  have qe0 : ∀ t, (F t).cell? ⟨w.heap.size + 1, 0, none⟩ = some (.int .i64 m) := fun t => ((hFk t).box bE (fun h => h)).cell 0
  have qe1 : ∀ t, (F t).cell? ⟨w.heap.size + 1, 1, none⟩ = some (.string u) := fun t => ((hFk t).box bE (fun h => h)).cell 1
  have qe2 : ∀ t, (F t).cell? ⟨w.heap.size + 1, 2, none⟩ = some (.string x) := fun t => ((hFk t).box bE (fun h => h)).cell 2
  have qs0 : ∀ t, (F t).cell? ⟨w.heap.size + 1 + 1, 0, none⟩ = some (.int .u8 1) := fun t => ((hFk t).box bS (fun h => h)).cell 0
  have qs1 : ∀ t, (F t).cell? ⟨w.heap.size + 1 + 1, 1, none⟩ = some (.int .u8 2) := fun t => ((hFk t).box bS (fun h => h)).cell 1
  have qs2 : ∀ t, (F t).cell? ⟨w.heap.size + 1 + 1, 2, none⟩ = some (.int .u8 4) := fun t => ((hFk t).box bS (fun h => h)).cell 2
  have HFK := Lib.hid hFk
  have HFS := Lib.hid hFs
  have HK := Lib.hid hk0
  clear hFk hFs bD bE bS hk0
  have hne : Nonempty T := ⟨t0⟩
  go_enter Tryd.func20, Tryd.ntmps20
  go_wp2_with fail
  refine wp_region_class F t0 ht0 (by kernel_rfl) (by kernel_rfl) ?_
  repeat (go_big_quiet_step (first
    | (go_at_call 26; with_reducible exact class_call HFS.out (A1 _))
    | (go_at_call 22; with_reducible exact class_call HFS.out (C1 _))))
  refine wpQuiet_nil ?_
  rintro _ ⟨tz, rfl⟩
  have hkz := HK.out.trans (HFK.out tz) (fun _ _ h => h)
  go_wp2_with fail
  go_ret
  exact ⟨rfl, hkz⟩
set_option maxRecDepth 100000 in
set_option maxHeartbeats 1000000 in
theorem has_same (h : o % 8 ≠ 0) (C1 : ∀ W, Calls Tryd.prog 22 #[.agg #[.int .i64 m, .string u, .string x], .agg #[.int .i64 n, .string v, .string r]] W fun e w' => e = .returned (.int .i64 (0)) ∧ Kept (fun _ => False) W w') :
    Calls Tryd.prog 20 #[depV nm o n v r, .agg #[.int .i64 m, .string u, .string x]] w fun e w' => e = .returned (.bool (bits .and .u8 (o : Int) 2 != 0)) ∧ Kept (fun _ => False) w w' := by
  have A1 := any_no nm o n v r ho h
  have bD := ((Box.made w 31 #[.string nm, .int .u8 (o : Int), .int .i64 n, .string v, .string r]).after_alloc (.cells #[.int .i64 m, .string u, .string x] 29)).after_alloc (.cells #[.int .u8 1, .int .u8 2, .int .u8 4] 50)
  have bE := (Box.made (w.alloc (.cells #[.string nm, .int .u8 (o : Int), .int .i64 n, .string v, .string r] 31)) 29 #[.int .i64 m, .string u, .string x]).after_alloc (.cells #[.int .u8 1, .int .u8 2, .int .u8 4] 50)
  have bS := Box.made ((w.alloc (.cells #[.string nm, .int .u8 (o : Int), .int .i64 n, .string v, .string r] 31)).alloc (.cells #[.int .i64 m, .string u, .string x] 29)) 50 #[.int .u8 1, .int .u8 2, .int .u8 4]
  rw [World.size_alloc] at bE
  rw [World.size_alloc, World.size_alloc] at bS
  have hk0 : Kept (fun _ => False) w (((w.alloc (.cells #[.string nm, .int .u8 (o : Int), .int .i64 n, .string v, .string r] 31)).alloc (.cells #[.int .i64 m, .string u, .string x] 29)).alloc (.cells #[.int .u8 1, .int .u8 2, .int .u8 4] 50)) := (((Kept.refl _ _).alloc _).alloc _).alloc _
  obtain ⟨T, F, t0, ht0, hFk, hFs⟩ := class_of (((w.alloc (.cells #[.string nm, .int .u8 (o : Int), .int .i64 n, .string v, .string r] 31)).alloc (.cells #[.int .i64 m, .string u, .string x] 29)).alloc (.cells #[.int .u8 1, .int .u8 2, .int .u8 4] 50))
  have qd0 : ∀ t, (F t).cell? ⟨w.heap.size, 0, none⟩ = some (.string nm) := fun t => ((hFk t).box bD (fun h => h)).cell 0
  have qd1 : ∀ t, (F t).cell? ⟨w.heap.size, 1, none⟩ = some (.int .u8 (o : Int)) := fun t => ((hFk t).box bD (fun h => h)).cell 1
  have qd2 : ∀ t, (F t).cell? ⟨w.heap.size, 2, none⟩ = some (.int .i64 n) := fun t => ((hFk t).box bD (fun h => h)).cell 2
  have qd3 : ∀ t, (F t).cell? ⟨w.heap.size, 3, none⟩ = some (.string v) := fun t => ((hFk t).box bD (fun h => h)).cell 3
  have qd4 : ∀ t, (F t).cell? ⟨w.heap.size, 4, none⟩ = some (.string r) := fun t => ((hFk t).box bD (fun h => h)).cell 4
  have qe0 : ∀ t, (F t).cell? ⟨w.heap.size + 1, 0, none⟩ = some (.int .i64 m) := fun t => ((hFk t).box bE (fun h => h)).cell 0
  have qe1 : ∀ t, (F t).cell? ⟨w.heap.size + 1, 1, none⟩ = some (.string u) := fun t => ((hFk t).box bE (fun h => h)).cell 1
  have qe2 : ∀ t, (F t).cell? ⟨w.heap.size + 1, 2, none⟩ = some (.string x) := fun t => ((hFk t).box bE (fun h => h)).cell 2
  have qs0 : ∀ t, (F t).cell? ⟨w.heap.size + 1 + 1, 0, none⟩ = some (.int .u8 1) := fun t => ((hFk t).box bS (fun h => h)).cell 0
  have qs1 : ∀ t, (F t).cell? ⟨w.heap.size + 1 + 1, 1, none⟩ = some (.int .u8 2) := fun t => ((hFk t).box bS (fun h => h)).cell 1
  have qs2 : ∀ t, (F t).cell? ⟨w.heap.size + 1 + 1, 2, none⟩ = some (.int .u8 4) := fun t => ((hFk t).box bS (fun h => h)).cell 2
  have HFK := Lib.hid hFk
  have HFS := Lib.hid hFs
  have HK := Lib.hid hk0
  clear hFk hFs bD bE bS hk0
  have hne : Nonempty T := ⟨t0⟩
  go_enter Tryd.func20, Tryd.ntmps20
  go_wp2_with fail
  refine wp_region_class F t0 ht0 (by kernel_rfl) (by kernel_rfl) ?_
  repeat (go_big_quiet_step (first
    | (go_at_call 26; with_reducible exact class_call HFS.out (A1 _))
    | (go_at_call 22; with_reducible exact class_call HFS.out (C1 _))))
  refine wpQuiet_nil ?_
  rintro _ ⟨tz, rfl⟩
  have hkz := HK.out.trans (HFK.out tz) (fun _ _ h => h)
  go_wp2_with fail
  go_ret
  exact ⟨rfl, hkz⟩
set_option maxRecDepth 100000 in
set_option maxHeartbeats 1000000 in
theorem has_more (h : o % 8 ≠ 0) (C1 : ∀ W, Calls Tryd.prog 22 #[.agg #[.int .i64 m, .string u, .string x], .agg #[.int .i64 n, .string v, .string r]] W fun e w' => e = .returned (.int .i64 (1)) ∧ Kept (fun _ => False) W w') :
    Calls Tryd.prog 20 #[depV nm o n v r, .agg #[.int .i64 m, .string u, .string x]] w fun e w' => e = .returned (.bool (bits .and .u8 (o : Int) 4 != 0)) ∧ Kept (fun _ => False) w w' := by
  have A1 := any_no nm o n v r ho h
  have bD := ((Box.made w 31 #[.string nm, .int .u8 (o : Int), .int .i64 n, .string v, .string r]).after_alloc (.cells #[.int .i64 m, .string u, .string x] 29)).after_alloc (.cells #[.int .u8 1, .int .u8 2, .int .u8 4] 50)
  have bE := (Box.made (w.alloc (.cells #[.string nm, .int .u8 (o : Int), .int .i64 n, .string v, .string r] 31)) 29 #[.int .i64 m, .string u, .string x]).after_alloc (.cells #[.int .u8 1, .int .u8 2, .int .u8 4] 50)
  have bS := Box.made ((w.alloc (.cells #[.string nm, .int .u8 (o : Int), .int .i64 n, .string v, .string r] 31)).alloc (.cells #[.int .i64 m, .string u, .string x] 29)) 50 #[.int .u8 1, .int .u8 2, .int .u8 4]
  rw [World.size_alloc] at bE
  rw [World.size_alloc, World.size_alloc] at bS
  have hk0 : Kept (fun _ => False) w (((w.alloc (.cells #[.string nm, .int .u8 (o : Int), .int .i64 n, .string v, .string r] 31)).alloc (.cells #[.int .i64 m, .string u, .string x] 29)).alloc (.cells #[.int .u8 1, .int .u8 2, .int .u8 4] 50)) := (((Kept.refl _ _).alloc _).alloc _).alloc _
  obtain ⟨T, F, t0, ht0, hFk, hFs⟩ := class_of (((w.alloc (.cells #[.string nm, .int .u8 (o : Int), .int .i64 n, .string v, .string r] 31)).alloc (.cells #[.int .i64 m, .string u, .string x] 29)).alloc (.cells #[.int .u8 1, .int .u8 2, .int .u8 4] 50))
  have qd0 : ∀ t, (F t).cell? ⟨w.heap.size, 0, none⟩ = some (.string nm) := fun t => ((hFk t).box bD (fun h => h)).cell 0
  have qd1 : ∀ t, (F t).cell? ⟨w.heap.size, 1, none⟩ = some (.int .u8 (o : Int)) := fun t => ((hFk t).box bD (fun h => h)).cell 1
  have qd2 : ∀ t, (F t).cell? ⟨w.heap.size, 2, none⟩ = some (.int .i64 n) := fun t => ((hFk t).box bD (fun h => h)).cell 2
  have qd3 : ∀ t, (F t).cell? ⟨w.heap.size, 3, none⟩ = some (.string v) := fun t => ((hFk t).box bD (fun h => h)).cell 3
  have qd4 : ∀ t, (F t).cell? ⟨w.heap.size, 4, none⟩ = some (.string r) := fun t => ((hFk t).box bD (fun h => h)).cell 4
  have qe0 : ∀ t, (F t).cell? ⟨w.heap.size + 1, 0, none⟩ = some (.int .i64 m) := fun t => ((hFk t).box bE (fun h => h)).cell 0
  have qe1 : ∀ t, (F t).cell? ⟨w.heap.size + 1, 1, none⟩ = some (.string u) := fun t => ((hFk t).box bE (fun h => h)).cell 1
  have qe2 : ∀ t, (F t).cell? ⟨w.heap.size + 1, 2, none⟩ = some (.string x) := fun t => ((hFk t).box bE (fun h => h)).cell 2
  have qs0 : ∀ t, (F t).cell? ⟨w.heap.size + 1 + 1, 0, none⟩ = some (.int .u8 1) := fun t => ((hFk t).box bS (fun h => h)).cell 0
  have qs1 : ∀ t, (F t).cell? ⟨w.heap.size + 1 + 1, 1, none⟩ = some (.int .u8 2) := fun t => ((hFk t).box bS (fun h => h)).cell 1
  have qs2 : ∀ t, (F t).cell? ⟨w.heap.size + 1 + 1, 2, none⟩ = some (.int .u8 4) := fun t => ((hFk t).box bS (fun h => h)).cell 2
  have HFK := Lib.hid hFk
  have HFS := Lib.hid hFs
  have HK := Lib.hid hk0
  clear hFk hFs bD bE bS hk0
  have hne : Nonempty T := ⟨t0⟩
  go_enter Tryd.func20, Tryd.ntmps20
  go_wp2_with fail
  refine wp_region_class F t0 ht0 (by kernel_rfl) (by kernel_rfl) ?_
  repeat (go_big_quiet_step (first
    | (go_at_call 26; with_reducible exact class_call HFS.out (A1 _))
    | (go_at_call 22; with_reducible exact class_call HFS.out (C1 _))))
  refine wpQuiet_nil ?_
  rintro _ ⟨tz, rfl⟩
  have hkz := HK.out.trans (HFK.out tz) (fun _ _ h => h)
  go_wp2_with fail
  go_ret
  exact ⟨rfl, hkz⟩
theorem has_k (hv : v.size ≤ 1000000) (hr : r.size ≤ 1000000) (hu : u.size ≤ 1000000) (hx : x.size ≤ 1000000) :
    Calls Tryd.prog 20 #[depV nm o n v r, .agg #[.int .i64 m, .string u, .string x]] w fun e w' => e = .returned (.bool (hasO o (cmpE (evrE m u x) (evrE n v r)))) ∧ Kept (fun _ => False) w w' := by
  have hC := fun W => compareK_walk m n u x v r W hu hx hv hr
  have h3 := three (e_range (evrE m u x) (evrE n v r))
  by_cases h : o % 8 = 0
  · have e : ∀ c, hasO o c = true := fun c => by unfold hasO; simp [h]
    rw [e]
    exact has_any nm o n v r m u x w ho h
  · have h0 : (o % 8 == 0) = false := by simp [h]
    rcases h3 with h3 | h3 | h3
    · rw [h3] at hC ⊢
      have e : hasO o (-1) = (bits .and .u8 (o : Int) 1 != 0) := by
        rw [bit_one o ho, Bool.eq_iff_iff]; simp [hasO, h0]; omega
      rw [e]
      exact has_less nm o n v r m u x w ho h hC
    · rw [h3] at hC ⊢
      have e : hasO o 0 = (bits .and .u8 (o : Int) 2 != 0) := by
        rw [bit_two o ho, Bool.eq_iff_iff]; simp [hasO, h0]; omega
      rw [e]
      exact has_same nm o n v r m u x w ho h hC
    · rw [h3] at hC ⊢
      have e : hasO o 1 = (bits .and .u8 (o : Int) 4 != 0) := by
        rw [bit_four o ho, Bool.eq_iff_iff]; simp [hasO, h0]; omega
      rw [e]
      exact has_more nm o n v r m u x w ho h hC
end
end Go.Proofs.YtjjjelgjjdgldaaDoor
