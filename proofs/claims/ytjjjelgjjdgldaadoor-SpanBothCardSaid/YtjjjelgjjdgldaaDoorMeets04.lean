/-
  The walk over the law SpanMeets. Conditions: as each theorem states.
-/
import Derived.Test.YtjjjelgjjdgldaaDoorFace04
import Derived.Test.YtjjjelgjjdgldaaDoorRef04b
namespace Go.Proofs.YtjjjelgjjdgldaaDoor
open Go.RowKit Span Evr

set_option maxRecDepth 100000 in
set_option maxHeartbeats 2000000 in
theorem spanmeets_longA (na : ByteArray) (o : Nat) (n : Int) (v r : ByteArray) (nb : ByteArray) (k : Nat) (m : Int) (u x : ByteArray) (l : Int) (y z : ByteArray) (w : World) (hA : ∀ W : World, Calls Tryd.prog 17 #[.agg #[.int .i64 n, .string v, .string r]] W fun e w' => e = .returned (.bool true) ∧ Kept (fun _ => False) W w') : Calls Tryd.prog 4 #[.agg #[.string na, .int .u8 (o : Int), .int .i64 n, .string v, .string r], .agg #[.string nb, .int .u8 (k : Int), .int .i64 m, .string u, .string x], .agg #[.int .i64 l, .string y, .string z]] w fun e w' => e = .returned (.bool true) ∧ Kept (fun _ => False) w w' := by
  have hW := awake_walk
  have hk0 : Kept (fun _ => False) w (((w.alloc (.cells #[.string na, .int .u8 (o : Int), .int .i64 n, .string v, .string r] 31)).alloc (.cells #[.string nb, .int .u8 (k : Int), .int .i64 m, .string u, .string x] 31)).alloc (.cells #[.int .i64 l, .string y, .string z] 29)) := (((Kept.refl _ _).alloc _).alloc _).alloc _
  have HK := Lib.hid hk0
  have bA := ((Box.made w 31 #[.string na, .int .u8 (o : Int), .int .i64 n, .string v, .string r]).after_alloc (.cells #[.string nb, .int .u8 (k : Int), .int .i64 m, .string u, .string x] 31)).after_alloc (.cells #[.int .i64 l, .string y, .string z] 29)
  have bB := (Box.made (w.alloc (.cells #[.string na, .int .u8 (o : Int), .int .i64 n, .string v, .string r] 31)) 31 #[.string nb, .int .u8 (k : Int), .int .i64 m, .string u, .string x]).after_alloc (.cells #[.int .i64 l, .string y, .string z] 29)
  rw [World.size_alloc] at bB
  have bE := Box.made ((w.alloc (.cells #[.string na, .int .u8 (o : Int), .int .i64 n, .string v, .string r] 31)).alloc (.cells #[.string nb, .int .u8 (k : Int), .int .i64 m, .string u, .string x] 31)) 29 #[.int .i64 l, .string y, .string z]
  rw [World.size_alloc, World.size_alloc] at bE
  have HA := Lib.hid bA
  have HB := Lib.hid bB
  have HE := Lib.hid bE
  clear hk0 bA bB bE
  go_enter Tryd.func4, Tryd.ntmps4
  go_wp2_with (first
    | (go_at_call 17; (first | with_reducible refine (hA _).mono ?_); rintro e w5 ⟨rfl, hk5⟩; have HA := Lib.hid (hk5.box HA.out (fun h => h)); have HB := Lib.hid (hk5.box HB.out (fun h => h)); have HE := Lib.hid (hk5.box HE.out (fun h => h)); have ax0 := HA.out.cell 0; have ax1 := HA.out.cell 1; have ax2 := HA.out.cell 2; have ax3 := HA.out.cell 3; have ax4 := HA.out.cell 4; have bx0 := HB.out.cell 0; have bx1 := HB.out.cell 1; have bx2 := HB.out.cell 2; have bx3 := HB.out.cell 3; have bx4 := HB.out.cell 4; have ex0 := HE.out.cell 0; have ex1 := HE.out.cell 1; have ex2 := HE.out.cell 2; have HK := Lib.hid (Kept.trans HK.out hk5 (fun _ _ h => h)); clear hk5)
    | (go_at_call 10; (first | with_reducible refine (hW _).mono ?_); rintro e w5 ⟨rfl, hk5⟩; have HA := Lib.hid (hk5.box HA.out (fun h => h)); have HB := Lib.hid (hk5.box HB.out (fun h => h)); have HE := Lib.hid (hk5.box HE.out (fun h => h)); have ax0 := HA.out.cell 0; have ax1 := HA.out.cell 1; have ax2 := HA.out.cell 2; have ax3 := HA.out.cell 3; have ax4 := HA.out.cell 4; have bx0 := HB.out.cell 0; have bx1 := HB.out.cell 1; have bx2 := HB.out.cell 2; have bx3 := HB.out.cell 3; have bx4 := HB.out.cell 4; have ex0 := HE.out.cell 0; have ex1 := HE.out.cell 1; have ex2 := HE.out.cell 2; have HK := Lib.hid (Kept.trans HK.out hk5 (fun _ _ h => h)); clear hk5)
    | fail)
  all_goals go_ret
  all_goals exact ⟨rfl, HK.out⟩
set_option maxRecDepth 100000 in
set_option maxHeartbeats 2000000 in
theorem spanmeets_longB (na : ByteArray) (o : Nat) (n : Int) (v r : ByteArray) (nb : ByteArray) (k : Nat) (m : Int) (u x : ByteArray) (l : Int) (y z : ByteArray) (w : World) (hA : ∀ W : World, Calls Tryd.prog 17 #[.agg #[.int .i64 n, .string v, .string r]] W fun e w' => e = .returned (.bool false) ∧ Kept (fun _ => False) W w') (hB : ∀ W : World, Calls Tryd.prog 17 #[.agg #[.int .i64 m, .string u, .string x]] W fun e w' => e = .returned (.bool true) ∧ Kept (fun _ => False) W w') : Calls Tryd.prog 4 #[.agg #[.string na, .int .u8 (o : Int), .int .i64 n, .string v, .string r], .agg #[.string nb, .int .u8 (k : Int), .int .i64 m, .string u, .string x], .agg #[.int .i64 l, .string y, .string z]] w fun e w' => e = .returned (.bool true) ∧ Kept (fun _ => False) w w' := by
  have hW := awake_walk
  have hk0 : Kept (fun _ => False) w (((w.alloc (.cells #[.string na, .int .u8 (o : Int), .int .i64 n, .string v, .string r] 31)).alloc (.cells #[.string nb, .int .u8 (k : Int), .int .i64 m, .string u, .string x] 31)).alloc (.cells #[.int .i64 l, .string y, .string z] 29)) := (((Kept.refl _ _).alloc _).alloc _).alloc _
  have HK := Lib.hid hk0
  have bA := ((Box.made w 31 #[.string na, .int .u8 (o : Int), .int .i64 n, .string v, .string r]).after_alloc (.cells #[.string nb, .int .u8 (k : Int), .int .i64 m, .string u, .string x] 31)).after_alloc (.cells #[.int .i64 l, .string y, .string z] 29)
  have bB := (Box.made (w.alloc (.cells #[.string na, .int .u8 (o : Int), .int .i64 n, .string v, .string r] 31)) 31 #[.string nb, .int .u8 (k : Int), .int .i64 m, .string u, .string x]).after_alloc (.cells #[.int .i64 l, .string y, .string z] 29)
  rw [World.size_alloc] at bB
  have bE := Box.made ((w.alloc (.cells #[.string na, .int .u8 (o : Int), .int .i64 n, .string v, .string r] 31)).alloc (.cells #[.string nb, .int .u8 (k : Int), .int .i64 m, .string u, .string x] 31)) 29 #[.int .i64 l, .string y, .string z]
  rw [World.size_alloc, World.size_alloc] at bE
  have HA := Lib.hid bA
  have HB := Lib.hid bB
  have HE := Lib.hid bE
  clear hk0 bA bB bE
  go_enter Tryd.func4, Tryd.ntmps4
  go_wp2_with (first
    | (go_at_call 17; (first | with_reducible refine (hA _).mono ?_ | with_reducible refine (hB _).mono ?_); rintro e w5 ⟨rfl, hk5⟩; have HA := Lib.hid (hk5.box HA.out (fun h => h)); have HB := Lib.hid (hk5.box HB.out (fun h => h)); have HE := Lib.hid (hk5.box HE.out (fun h => h)); have ax0 := HA.out.cell 0; have ax1 := HA.out.cell 1; have ax2 := HA.out.cell 2; have ax3 := HA.out.cell 3; have ax4 := HA.out.cell 4; have bx0 := HB.out.cell 0; have bx1 := HB.out.cell 1; have bx2 := HB.out.cell 2; have bx3 := HB.out.cell 3; have bx4 := HB.out.cell 4; have ex0 := HE.out.cell 0; have ex1 := HE.out.cell 1; have ex2 := HE.out.cell 2; have HK := Lib.hid (Kept.trans HK.out hk5 (fun _ _ h => h)); clear hk5)
    | (go_at_call 10; (first | with_reducible refine (hW _).mono ?_); rintro e w5 ⟨rfl, hk5⟩; have HA := Lib.hid (hk5.box HA.out (fun h => h)); have HB := Lib.hid (hk5.box HB.out (fun h => h)); have HE := Lib.hid (hk5.box HE.out (fun h => h)); have ax0 := HA.out.cell 0; have ax1 := HA.out.cell 1; have ax2 := HA.out.cell 2; have ax3 := HA.out.cell 3; have ax4 := HA.out.cell 4; have bx0 := HB.out.cell 0; have bx1 := HB.out.cell 1; have bx2 := HB.out.cell 2; have bx3 := HB.out.cell 3; have bx4 := HB.out.cell 4; have ex0 := HE.out.cell 0; have ex1 := HE.out.cell 1; have ex2 := HE.out.cell 2; have HK := Lib.hid (Kept.trans HK.out hk5 (fun _ _ h => h)); clear hk5)
    | fail)
  all_goals go_ret
  all_goals exact ⟨rfl, HK.out⟩
set_option maxRecDepth 100000 in
set_option maxHeartbeats 2000000 in
theorem spanmeets_longE (na : ByteArray) (o : Nat) (n : Int) (v r : ByteArray) (nb : ByteArray) (k : Nat) (m : Int) (u x : ByteArray) (l : Int) (y z : ByteArray) (w : World) (hA : ∀ W : World, Calls Tryd.prog 17 #[.agg #[.int .i64 n, .string v, .string r]] W fun e w' => e = .returned (.bool false) ∧ Kept (fun _ => False) W w') (hB : ∀ W : World, Calls Tryd.prog 17 #[.agg #[.int .i64 m, .string u, .string x]] W fun e w' => e = .returned (.bool false) ∧ Kept (fun _ => False) W w') (hE : ∀ W : World, Calls Tryd.prog 17 #[.agg #[.int .i64 l, .string y, .string z]] W fun e w' => e = .returned (.bool true) ∧ Kept (fun _ => False) W w') : Calls Tryd.prog 4 #[.agg #[.string na, .int .u8 (o : Int), .int .i64 n, .string v, .string r], .agg #[.string nb, .int .u8 (k : Int), .int .i64 m, .string u, .string x], .agg #[.int .i64 l, .string y, .string z]] w fun e w' => e = .returned (.bool true) ∧ Kept (fun _ => False) w w' := by
  have hW := awake_walk
  have hk0 : Kept (fun _ => False) w (((w.alloc (.cells #[.string na, .int .u8 (o : Int), .int .i64 n, .string v, .string r] 31)).alloc (.cells #[.string nb, .int .u8 (k : Int), .int .i64 m, .string u, .string x] 31)).alloc (.cells #[.int .i64 l, .string y, .string z] 29)) := (((Kept.refl _ _).alloc _).alloc _).alloc _
  have HK := Lib.hid hk0
  have bA := ((Box.made w 31 #[.string na, .int .u8 (o : Int), .int .i64 n, .string v, .string r]).after_alloc (.cells #[.string nb, .int .u8 (k : Int), .int .i64 m, .string u, .string x] 31)).after_alloc (.cells #[.int .i64 l, .string y, .string z] 29)
  have bB := (Box.made (w.alloc (.cells #[.string na, .int .u8 (o : Int), .int .i64 n, .string v, .string r] 31)) 31 #[.string nb, .int .u8 (k : Int), .int .i64 m, .string u, .string x]).after_alloc (.cells #[.int .i64 l, .string y, .string z] 29)
  rw [World.size_alloc] at bB
  have bE := Box.made ((w.alloc (.cells #[.string na, .int .u8 (o : Int), .int .i64 n, .string v, .string r] 31)).alloc (.cells #[.string nb, .int .u8 (k : Int), .int .i64 m, .string u, .string x] 31)) 29 #[.int .i64 l, .string y, .string z]
  rw [World.size_alloc, World.size_alloc] at bE
  have HA := Lib.hid bA
  have HB := Lib.hid bB
  have HE := Lib.hid bE
  clear hk0 bA bB bE
  go_enter Tryd.func4, Tryd.ntmps4
  go_wp2_with (first
    | (go_at_call 17; (first | with_reducible refine (hA _).mono ?_ | with_reducible refine (hB _).mono ?_ | with_reducible refine (hE _).mono ?_); rintro e w5 ⟨rfl, hk5⟩; have HA := Lib.hid (hk5.box HA.out (fun h => h)); have HB := Lib.hid (hk5.box HB.out (fun h => h)); have HE := Lib.hid (hk5.box HE.out (fun h => h)); have ax0 := HA.out.cell 0; have ax1 := HA.out.cell 1; have ax2 := HA.out.cell 2; have ax3 := HA.out.cell 3; have ax4 := HA.out.cell 4; have bx0 := HB.out.cell 0; have bx1 := HB.out.cell 1; have bx2 := HB.out.cell 2; have bx3 := HB.out.cell 3; have bx4 := HB.out.cell 4; have ex0 := HE.out.cell 0; have ex1 := HE.out.cell 1; have ex2 := HE.out.cell 2; have HK := Lib.hid (Kept.trans HK.out hk5 (fun _ _ h => h)); clear hk5)
    | (go_at_call 10; (first | with_reducible refine (hW _).mono ?_); rintro e w5 ⟨rfl, hk5⟩; have HA := Lib.hid (hk5.box HA.out (fun h => h)); have HB := Lib.hid (hk5.box HB.out (fun h => h)); have HE := Lib.hid (hk5.box HE.out (fun h => h)); have ax0 := HA.out.cell 0; have ax1 := HA.out.cell 1; have ax2 := HA.out.cell 2; have ax3 := HA.out.cell 3; have ax4 := HA.out.cell 4; have bx0 := HB.out.cell 0; have bx1 := HB.out.cell 1; have bx2 := HB.out.cell 2; have bx3 := HB.out.cell 3; have bx4 := HB.out.cell 4; have ex0 := HE.out.cell 0; have ex1 := HE.out.cell 1; have ex2 := HE.out.cell 2; have HK := Lib.hid (Kept.trans HK.out hk5 (fun _ _ h => h)); clear hk5)
    | fail)
  all_goals go_ret
  all_goals exact ⟨rfl, HK.out⟩
set_option maxRecDepth 100000 in
set_option maxHeartbeats 2000000 in
theorem spanmeets_main (na : ByteArray) (o : Nat) (n : Int) (v r : ByteArray) (nb : ByteArray) (k : Nat) (m : Int) (u x : ByteArray) (l : Int) (y z : ByteArray) (p q : Bool) (w : World) (hA : ∀ W : World, Calls Tryd.prog 17 #[.agg #[.int .i64 n, .string v, .string r]] W fun e w' => e = .returned (.bool false) ∧ Kept (fun _ => False) W w') (hB : ∀ W : World, Calls Tryd.prog 17 #[.agg #[.int .i64 m, .string u, .string x]] W fun e w' => e = .returned (.bool false) ∧ Kept (fun _ => False) W w') (hE : ∀ W : World, Calls Tryd.prog 17 #[.agg #[.int .i64 l, .string y, .string z]] W fun e w' => e = .returned (.bool false) ∧ Kept (fun _ => False) W w') (M1 : ∀ W : World, Calls Tryd.prog 18 #[.agg #[.string na, .int .u8 (o : Int), .int .i64 n, .string v, .string r], .agg #[.string nb, .int .u8 (k : Int), .int .i64 m, .string u, .string x]] W fun e w' => e = .returned (.bool p) ∧ Kept (fun _ => False) W w') (M2 : ∀ W : World, Calls Tryd.prog 19 #[.agg #[.string na, .int .u8 (o : Int), .int .i64 n, .string v, .string r], .agg #[.string nb, .int .u8 (k : Int), .int .i64 m, .string u, .string x]] W fun e w' => e = .returned (.bool p) ∧ Kept (fun _ => False) W w') (H1 : ∀ W : World, Calls Tryd.prog 20 #[.agg #[.string na, .int .u8 (o : Int), .int .i64 n, .string v, .string r], .agg #[.int .i64 l, .string y, .string z]] W fun e w' => e = .returned (.bool q) ∧ Kept (fun _ => False) W w') (H2 : ∀ W : World, Calls Tryd.prog 21 #[.agg #[.string na, .int .u8 (o : Int), .int .i64 n, .string v, .string r], .agg #[.int .i64 l, .string y, .string z]] W fun e w' => e = .returned (.bool q) ∧ Kept (fun _ => False) W w') : Calls Tryd.prog 4 #[.agg #[.string na, .int .u8 (o : Int), .int .i64 n, .string v, .string r], .agg #[.string nb, .int .u8 (k : Int), .int .i64 m, .string u, .string x], .agg #[.int .i64 l, .string y, .string z]] w fun e w' => e = .returned (.bool true) ∧ Kept (fun _ => False) w w' := by
  have hW := awake_walk
  have hk0 : Kept (fun _ => False) w (((w.alloc (.cells #[.string na, .int .u8 (o : Int), .int .i64 n, .string v, .string r] 31)).alloc (.cells #[.string nb, .int .u8 (k : Int), .int .i64 m, .string u, .string x] 31)).alloc (.cells #[.int .i64 l, .string y, .string z] 29)) := (((Kept.refl _ _).alloc _).alloc _).alloc _
  have HK := Lib.hid hk0
  have bA := ((Box.made w 31 #[.string na, .int .u8 (o : Int), .int .i64 n, .string v, .string r]).after_alloc (.cells #[.string nb, .int .u8 (k : Int), .int .i64 m, .string u, .string x] 31)).after_alloc (.cells #[.int .i64 l, .string y, .string z] 29)
  have bB := (Box.made (w.alloc (.cells #[.string na, .int .u8 (o : Int), .int .i64 n, .string v, .string r] 31)) 31 #[.string nb, .int .u8 (k : Int), .int .i64 m, .string u, .string x]).after_alloc (.cells #[.int .i64 l, .string y, .string z] 29)
  rw [World.size_alloc] at bB
  have bE := Box.made ((w.alloc (.cells #[.string na, .int .u8 (o : Int), .int .i64 n, .string v, .string r] 31)).alloc (.cells #[.string nb, .int .u8 (k : Int), .int .i64 m, .string u, .string x] 31)) 29 #[.int .i64 l, .string y, .string z]
  rw [World.size_alloc, World.size_alloc] at bE
  have HA := Lib.hid bA
  have HB := Lib.hid bB
  have HE := Lib.hid bE
  clear hk0 bA bB bE
  go_enter Tryd.func4, Tryd.ntmps4
  go_wp2_with (first
    | (go_at_call 17; (first | with_reducible refine (hA _).mono ?_ | with_reducible refine (hB _).mono ?_ | with_reducible refine (hE _).mono ?_); rintro e w5 ⟨rfl, hk5⟩; have HA := Lib.hid (hk5.box HA.out (fun h => h)); have HB := Lib.hid (hk5.box HB.out (fun h => h)); have HE := Lib.hid (hk5.box HE.out (fun h => h)); have ax0 := HA.out.cell 0; have ax1 := HA.out.cell 1; have ax2 := HA.out.cell 2; have ax3 := HA.out.cell 3; have ax4 := HA.out.cell 4; have bx0 := HB.out.cell 0; have bx1 := HB.out.cell 1; have bx2 := HB.out.cell 2; have bx3 := HB.out.cell 3; have bx4 := HB.out.cell 4; have ex0 := HE.out.cell 0; have ex1 := HE.out.cell 1; have ex2 := HE.out.cell 2; have HK := Lib.hid (Kept.trans HK.out hk5 (fun _ _ h => h)); clear hk5)
    | fail)
  obtain ⟨T, F, t0, ht0, hFk, hFs⟩ := class_of w5
  have qa0 : ∀ t, (F t).cell? ⟨w.heap.size, 0, none⟩ = some (.string na) := fun t => ((hFk t).box HA.out (fun h => h)).cell 0
  have qa1 : ∀ t, (F t).cell? ⟨w.heap.size, 1, none⟩ = some (.int .u8 (o : Int)) := fun t => ((hFk t).box HA.out (fun h => h)).cell 1
  have qa2 : ∀ t, (F t).cell? ⟨w.heap.size, 2, none⟩ = some (.int .i64 n) := fun t => ((hFk t).box HA.out (fun h => h)).cell 2
  have qa3 : ∀ t, (F t).cell? ⟨w.heap.size, 3, none⟩ = some (.string v) := fun t => ((hFk t).box HA.out (fun h => h)).cell 3
  have qa4 : ∀ t, (F t).cell? ⟨w.heap.size, 4, none⟩ = some (.string r) := fun t => ((hFk t).box HA.out (fun h => h)).cell 4
  have qb0 : ∀ t, (F t).cell? ⟨w.heap.size + 1, 0, none⟩ = some (.string nb) := fun t => ((hFk t).box HB.out (fun h => h)).cell 0
  have qb1 : ∀ t, (F t).cell? ⟨w.heap.size + 1, 1, none⟩ = some (.int .u8 (k : Int)) := fun t => ((hFk t).box HB.out (fun h => h)).cell 1
  have qb2 : ∀ t, (F t).cell? ⟨w.heap.size + 1, 2, none⟩ = some (.int .i64 m) := fun t => ((hFk t).box HB.out (fun h => h)).cell 2
  have qb3 : ∀ t, (F t).cell? ⟨w.heap.size + 1, 3, none⟩ = some (.string u) := fun t => ((hFk t).box HB.out (fun h => h)).cell 3
  have qb4 : ∀ t, (F t).cell? ⟨w.heap.size + 1, 4, none⟩ = some (.string x) := fun t => ((hFk t).box HB.out (fun h => h)).cell 4
  have qe0 : ∀ t, (F t).cell? ⟨w.heap.size + 1 + 1, 0, none⟩ = some (.int .i64 l) := fun t => ((hFk t).box HE.out (fun h => h)).cell 0
  have qe1 : ∀ t, (F t).cell? ⟨w.heap.size + 1 + 1, 1, none⟩ = some (.string y) := fun t => ((hFk t).box HE.out (fun h => h)).cell 1
  have qe2 : ∀ t, (F t).cell? ⟨w.heap.size + 1 + 1, 2, none⟩ = some (.string z) := fun t => ((hFk t).box HE.out (fun h => h)).cell 2
  have HFK := Lib.hid hFk
  have HFS := Lib.hid hFs
  clear hFk hFs
  have hne : Nonempty T := ⟨t0⟩
  refine wp_region_class F t0 ht0 (by kernel_rfl) (by kernel_rfl) ?_
  repeat (go_big_quiet_step (first
    | (go_at_call 18; (first | with_reducible exact class_call HFS.out (M1 _)))
    | (go_at_call 19; (first | with_reducible exact class_call HFS.out (M2 _)))
    | (go_at_call 20; (first | with_reducible exact class_call HFS.out (H1 _)))
    | (go_at_call 21; (first | with_reducible exact class_call HFS.out (H2 _)))
    | (go_at_call 10; (first | with_reducible exact class_call HFS.out (hW _)))))
  refine wpQuiet_nil ?_
  rintro _ ⟨tz, rfl⟩
  have hkz := HK.out.trans (HFK.out tz) (fun _ _ h => h)
  go_wp2_with fail
  go_ret
  exact ⟨by cases p <;> cases q <;> rfl, hkz⟩
theorem meets_walk (na : ByteArray) (o : Nat) (n : Int) (v r : ByteArray) (nb : ByteArray) (k : Nat) (m : Int) (u x : ByteArray) (l : Int) (y z : ByteArray) (w : World) (ho : o < 256) (hk : k < 256) : Calls Tryd.prog 4 #[.agg #[.string na, .int .u8 (o : Int), .int .i64 n, .string v, .string r], .agg #[.string nb, .int .u8 (k : Int), .int .i64 m, .string u, .string x], .agg #[.int .i64 l, .string y, .string z]] w fun e w' => e = .returned (.bool true) ∧ Kept (fun _ => False) w w' := by
  by_cases sA : v.size ≤ 2000 ∧ r.size ≤ 2000
  · have hA := fun W => long_no (n := n) sA W
    by_cases sB : u.size ≤ 2000 ∧ x.size ≤ 2000
    · have hB := fun W => long_no (n := m) sB W
      by_cases sE : y.size ≤ 2000 ∧ z.size ≤ 2000
      · have hE := fun W => long_no (n := l) sE W
        exact spanmeets_main na o n v r nb k m u x l y z _ _ w hA hB hE
          (fun W => meet_k na o n v r nb k m u x W ho hk (by omega) (by omega) (by omega) (by omega)) (fun W => meet4 na o n v r nb k m u x W ho hk (by omega) (by omega) (by omega) (by omega))
          (fun W => has_k na o n v r l y z W ho (by omega) (by omega) (by omega) (by omega)) (fun W => has4 na o n v r l y z W ho (by omega) (by omega) (by omega) (by omega))
      · exact spanmeets_longE na o n v r nb k m u x l y z w hA hB (fun W => long_yes sE W)
    · exact spanmeets_longB na o n v r nb k m u x l y z w hA (fun W => long_yes sB W)
  · exact spanmeets_longA na o n v r nb k m u x l y z w  (fun W => long_yes sA W)
end Go.Proofs.YtjjjelgjjdgldaaDoor
