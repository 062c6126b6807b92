/-
  The walk over the law SpanBoth. Conditions: as each theorem states.
-/
import Derived.Test.YtjjjelgjjdgldaaDoorMeets04
namespace Go.Proofs.YtjjjelgjjdgldaaDoor
open Go.RowKit Span Evr

set_option maxRecDepth 100000 in
set_option maxHeartbeats 2000000 in
theorem spanboth_longA (na : ByteArray) (o : Nat) (n : Int) (v r : ByteArray) (nb : ByteArray) (k : Nat) (m : Int) (u x : ByteArray) (l : Int) (y z : ByteArray) (w : World) (hA : ∀ W : World, Calls Tryd.prog 17 #[.agg #[.int .i64 n, .string v, .string r]] W fun e w' => e = .returned (.bool true) ∧ Kept (fun _ => False) W w') : Calls Tryd.prog 7 #[.agg #[.string na, .int .u8 (o : Int), .int .i64 n, .string v, .string r], .agg #[.string nb, .int .u8 (k : Int), .int .i64 m, .string u, .string x], .agg #[.int .i64 l, .string y, .string z]] w fun e w' => e = .returned (.bool true) ∧ Kept (fun _ => False) w w' := by
  have hW := awake_walk
  have hk0 : Kept (fun _ => False) w (((w.alloc (.cells #[.string na, .int .u8 (o : Int), .int .i64 n, .string v, .string r] 31)).alloc (.cells #[.string nb, .int .u8 (k : Int), .int .i64 m, .string u, .string x] 31)).alloc (.cells #[.int .i64 l, .string y, .string z] 29)) := (((Kept.refl _ _).alloc _).alloc _).alloc _
  have HK := Lib.hid hk0
  have bA := ((Box.made w 31 #[.string na, .int .u8 (o : Int), .int .i64 n, .string v, .string r]).after_alloc (.cells #[.string nb, .int .u8 (k : Int), .int .i64 m, .string u, .string x] 31)).after_alloc (.cells #[.int .i64 l, .string y, .string z] 29)
  have bB := (Box.made (w.alloc (.cells #[.string na, .int .u8 (o : Int), .int .i64 n, .string v, .string r] 31)) 31 #[.string nb, .int .u8 (k : Int), .int .i64 m, .string u, .string x]).after_alloc (.cells #[.int .i64 l, .string y, .string z] 29)
  rw [World.size_alloc] at bB
  have bE := Box.made ((w.alloc (.cells #[.string na, .int .u8 (o : Int), .int .i64 n, .string v, .string r] 31)).alloc (.cells #[.string nb, .int .u8 (k : Int), .int .i64 m, .string u, .string x] 31)) 29 #[.int .i64 l, .string y, .string z]
  rw [World.size_alloc, World.size_alloc] at bE
  have HA := Lib.hid bA
  have HB := Lib.hid bB
  have HE := Lib.hid bE
  clear hk0 bA bB bE
  go_enter Tryd.func7, Tryd.ntmps7
  go_wp2_with (first
    | (go_at_call 17; (first | with_reducible refine (hA _).mono ?_); rintro e w5 ⟨rfl, hk5⟩; have HA := Lib.hid (hk5.box HA.out (fun h => h)); have HB := Lib.hid (hk5.box HB.out (fun h => h)); have HE := Lib.hid (hk5.box HE.out (fun h => h)); have ax0 := HA.out.cell 0; have ax1 := HA.out.cell 1; have ax2 := HA.out.cell 2; have ax3 := HA.out.cell 3; have ax4 := HA.out.cell 4; have bx0 := HB.out.cell 0; have bx1 := HB.out.cell 1; have bx2 := HB.out.cell 2; have bx3 := HB.out.cell 3; have bx4 := HB.out.cell 4; have ex0 := HE.out.cell 0; have ex1 := HE.out.cell 1; have ex2 := HE.out.cell 2; have HK := Lib.hid (Kept.trans HK.out hk5 (fun _ _ h => h)); clear hk5)
    | (go_at_call 10; (first | with_reducible refine (hW _).mono ?_); rintro e w5 ⟨rfl, hk5⟩; have HA := Lib.hid (hk5.box HA.out (fun h => h)); have HB := Lib.hid (hk5.box HB.out (fun h => h)); have HE := Lib.hid (hk5.box HE.out (fun h => h)); have ax0 := HA.out.cell 0; have ax1 := HA.out.cell 1; have ax2 := HA.out.cell 2; have ax3 := HA.out.cell 3; have ax4 := HA.out.cell 4; have bx0 := HB.out.cell 0; have bx1 := HB.out.cell 1; have bx2 := HB.out.cell 2; have bx3 := HB.out.cell 3; have bx4 := HB.out.cell 4; have ex0 := HE.out.cell 0; have ex1 := HE.out.cell 1; have ex2 := HE.out.cell 2; have HK := Lib.hid (Kept.trans HK.out hk5 (fun _ _ h => h)); clear hk5)
    | fail)
  all_goals go_ret
  all_goals exact ⟨rfl, HK.out⟩
set_option maxRecDepth 100000 in
set_option maxHeartbeats 2000000 in
theorem spanboth_longB (na : ByteArray) (o : Nat) (n : Int) (v r : ByteArray) (nb : ByteArray) (k : Nat) (m : Int) (u x : ByteArray) (l : Int) (y z : ByteArray) (w : World) (hA : ∀ W : World, Calls Tryd.prog 17 #[.agg #[.int .i64 n, .string v, .string r]] W fun e w' => e = .returned (.bool false) ∧ Kept (fun _ => False) W w') (hB : ∀ W : World, Calls Tryd.prog 17 #[.agg #[.int .i64 m, .string u, .string x]] W fun e w' => e = .returned (.bool true) ∧ Kept (fun _ => False) W w') : Calls Tryd.prog 7 #[.agg #[.string na, .int .u8 (o : Int), .int .i64 n, .string v, .string r], .agg #[.string nb, .int .u8 (k : Int), .int .i64 m, .string u, .string x], .agg #[.int .i64 l, .string y, .string z]] w fun e w' => e = .returned (.bool true) ∧ Kept (fun _ => False) w w' := by
  have hW := awake_walk
  have hk0 : Kept (fun _ => False) w (((w.alloc (.cells #[.string na, .int .u8 (o : Int), .int .i64 n, .string v, .string r] 31)).alloc (.cells #[.string nb, .int .u8 (k : Int), .int .i64 m, .string u, .string x] 31)).alloc (.cells #[.int .i64 l, .string y, .string z] 29)) := (((Kept.refl _ _).alloc _).alloc _).alloc _
  have HK := Lib.hid hk0
  have bA := ((Box.made w 31 #[.string na, .int .u8 (o : Int), .int .i64 n, .string v, .string r]).after_alloc (.cells #[.string nb, .int .u8 (k : Int), .int .i64 m, .string u, .string x] 31)).after_alloc (.cells #[.int .i64 l, .string y, .string z] 29)
  have bB := (Box.made (w.alloc (.cells #[.string na, .int .u8 (o : Int), .int .i64 n, .string v, .string r] 31)) 31 #[.string nb, .int .u8 (k : Int), .int .i64 m, .string u, .string x]).after_alloc (.cells #[.int .i64 l, .string y, .string z] 29)
  rw [World.size_alloc] at bB
  have bE := Box.made ((w.alloc (.cells #[.string na, .int .u8 (o : Int), .int .i64 n, .string v, .string r] 31)).alloc (.cells #[.string nb, .int .u8 (k : Int), .int .i64 m, .string u, .string x] 31)) 29 #[.int .i64 l, .string y, .string z]
  rw [World.size_alloc, World.size_alloc] at bE
  have HA := Lib.hid bA
  have HB := Lib.hid bB
  have HE := Lib.hid bE
  clear hk0 bA bB bE
  go_enter Tryd.func7, Tryd.ntmps7
  go_wp2_with (first
    | (go_at_call 17; (first | with_reducible refine (hA _).mono ?_ | with_reducible refine (hB _).mono ?_); rintro e w5 ⟨rfl, hk5⟩; have HA := Lib.hid (hk5.box HA.out (fun h => h)); have HB := Lib.hid (hk5.box HB.out (fun h => h)); have HE := Lib.hid (hk5.box HE.out (fun h => h)); have ax0 := HA.out.cell 0; have ax1 := HA.out.cell 1; have ax2 := HA.out.cell 2; have ax3 := HA.out.cell 3; have ax4 := HA.out.cell 4; have bx0 := HB.out.cell 0; have bx1 := HB.out.cell 1; have bx2 := HB.out.cell 2; have bx3 := HB.out.cell 3; have bx4 := HB.out.cell 4; have ex0 := HE.out.cell 0; have ex1 := HE.out.cell 1; have ex2 := HE.out.cell 2; have HK := Lib.hid (Kept.trans HK.out hk5 (fun _ _ h => h)); clear hk5)
    | (go_at_call 10; (first | with_reducible refine (hW _).mono ?_); rintro e w5 ⟨rfl, hk5⟩; have HA := Lib.hid (hk5.box HA.out (fun h => h)); have HB := Lib.hid (hk5.box HB.out (fun h => h)); have HE := Lib.hid (hk5.box HE.out (fun h => h)); have ax0 := HA.out.cell 0; have ax1 := HA.out.cell 1; have ax2 := HA.out.cell 2; have ax3 := HA.out.cell 3; have ax4 := HA.out.cell 4; have bx0 := HB.out.cell 0; have bx1 := HB.out.cell 1; have bx2 := HB.out.cell 2; have bx3 := HB.out.cell 3; have bx4 := HB.out.cell 4; have ex0 := HE.out.cell 0; have ex1 := HE.out.cell 1; have ex2 := HE.out.cell 2; have HK := Lib.hid (Kept.trans HK.out hk5 (fun _ _ h => h)); clear hk5)
    | fail)
  all_goals go_ret
  all_goals exact ⟨rfl, HK.out⟩
set_option maxRecDepth 100000 in
set_option maxHeartbeats 2000000 in
theorem spanboth_longE (na : ByteArray) (o : Nat) (n : Int) (v r : ByteArray) (nb : ByteArray) (k : Nat) (m : Int) (u x : ByteArray) (l : Int) (y z : ByteArray) (w : World) (hA : ∀ W : World, Calls Tryd.prog 17 #[.agg #[.int .i64 n, .string v, .string r]] W fun e w' => e = .returned (.bool false) ∧ Kept (fun _ => False) W w') (hB : ∀ W : World, Calls Tryd.prog 17 #[.agg #[.int .i64 m, .string u, .string x]] W fun e w' => e = .returned (.bool false) ∧ Kept (fun _ => False) W w') (hE : ∀ W : World, Calls Tryd.prog 17 #[.agg #[.int .i64 l, .string y, .string z]] W fun e w' => e = .returned (.bool true) ∧ Kept (fun _ => False) W w') : Calls Tryd.prog 7 #[.agg #[.string na, .int .u8 (o : Int), .int .i64 n, .string v, .string r], .agg #[.string nb, .int .u8 (k : Int), .int .i64 m, .string u, .string x], .agg #[.int .i64 l, .string y, .string z]] w fun e w' => e = .returned (.bool true) ∧ Kept (fun _ => False) w w' := by
  have hW := awake_walk
  have hk0 : Kept (fun _ => False) w (((w.alloc (.cells #[.string na, .int .u8 (o : Int), .int .i64 n, .string v, .string r] 31)).alloc (.cells #[.string nb, .int .u8 (k : Int), .int .i64 m, .string u, .string x] 31)).alloc (.cells #[.int .i64 l, .string y, .string z] 29)) := (((Kept.refl _ _).alloc _).alloc _).alloc _
  have HK := Lib.hid hk0
  have bA := ((Box.made w 31 #[.string na, .int .u8 (o : Int), .int .i64 n, .string v, .string r]).after_alloc (.cells #[.string nb, .int .u8 (k : Int), .int .i64 m, .string u, .string x] 31)).after_alloc (.cells #[.int .i64 l, .string y, .string z] 29)
  have bB := (Box.made (w.alloc (.cells #[.string na, .int .u8 (o : Int), .int .i64 n, .string v, .string r] 31)) 31 #[.string nb, .int .u8 (k : Int), .int .i64 m, .string u, .string x]).after_alloc (.cells #[.int .i64 l, .string y, .string z] 29)
  rw [World.size_alloc] at bB
  have bE := Box.made ((w.alloc (.cells #[.string na, .int .u8 (o : Int), .int .i64 n, .string v, .string r] 31)).alloc (.cells #[.string nb, .int .u8 (k : Int), .int .i64 m, .string u, .string x] 31)) 29 #[.int .i64 l, .string y, .string z]
  rw [World.size_alloc, World.size_alloc] at bE
  have HA := Lib.hid bA
  have HB := Lib.hid bB
  have HE := Lib.hid bE
  clear hk0 bA bB bE
  go_enter Tryd.func7, Tryd.ntmps7
  go_wp2_with (first
    | (go_at_call 17; (first | with_reducible refine (hA _).mono ?_ | with_reducible refine (hB _).mono ?_ | with_reducible refine (hE _).mono ?_); rintro e w5 ⟨rfl, hk5⟩; have HA := Lib.hid (hk5.box HA.out (fun h => h)); have HB := Lib.hid (hk5.box HB.out (fun h => h)); have HE := Lib.hid (hk5.box HE.out (fun h => h)); have ax0 := HA.out.cell 0; have ax1 := HA.out.cell 1; have ax2 := HA.out.cell 2; have ax3 := HA.out.cell 3; have ax4 := HA.out.cell 4; have bx0 := HB.out.cell 0; have bx1 := HB.out.cell 1; have bx2 := HB.out.cell 2; have bx3 := HB.out.cell 3; have bx4 := HB.out.cell 4; have ex0 := HE.out.cell 0; have ex1 := HE.out.cell 1; have ex2 := HE.out.cell 2; have HK := Lib.hid (Kept.trans HK.out hk5 (fun _ _ h => h)); clear hk5)
    | (go_at_call 10; (first | with_reducible refine (hW _).mono ?_); rintro e w5 ⟨rfl, hk5⟩; have HA := Lib.hid (hk5.box HA.out (fun h => h)); have HB := Lib.hid (hk5.box HB.out (fun h => h)); have HE := Lib.hid (hk5.box HE.out (fun h => h)); have ax0 := HA.out.cell 0; have ax1 := HA.out.cell 1; have ax2 := HA.out.cell 2; have ax3 := HA.out.cell 3; have ax4 := HA.out.cell 4; have bx0 := HB.out.cell 0; have bx1 := HB.out.cell 1; have bx2 := HB.out.cell 2; have bx3 := HB.out.cell 3; have bx4 := HB.out.cell 4; have ex0 := HE.out.cell 0; have ex1 := HE.out.cell 1; have ex2 := HE.out.cell 2; have HK := Lib.hid (Kept.trans HK.out hk5 (fun _ _ h => h)); clear hk5)
    | fail)
  all_goals go_ret
  all_goals exact ⟨rfl, HK.out⟩
set_option maxRecDepth 100000 in
set_option maxHeartbeats 2000000 in
theorem spanboth_r (na : ByteArray) (o : Nat) (n : Int) (v : ByteArray) (nb : ByteArray) (k : Nat) (m : Int) (u x : ByteArray) (l : Int) (y z : ByteArray) (y1 : Bool) (w : World) (hA : ∀ W : World, Calls Tryd.prog 17 #[.agg #[.int .i64 n, .string v, .string ⟨#[]⟩]] W fun e w' => e = .returned (.bool false) ∧ Kept (fun _ => False) W w') (hB : ∀ W : World, Calls Tryd.prog 17 #[.agg #[.int .i64 m, .string u, .string x]] W fun e w' => e = .returned (.bool false) ∧ Kept (fun _ => False) W w') (hE : ∀ W : World, Calls Tryd.prog 17 #[.agg #[.int .i64 l, .string y, .string z]] W fun e w' => e = .returned (.bool false) ∧ Kept (fun _ => False) W w') (M1 : ∀ W : World, Calls Tryd.prog 18 #[.agg #[.string na, .int .u8 (2), .int .i64 n, .string v, .string ⟨#[]⟩], .agg #[.string nb, .int .u8 (k : Int), .int .i64 m, .string u, .string x]] W fun e w' => e = .returned (.bool y1) ∧ Kept (fun _ => False) W w') (H1 : ∀ W : World, Calls Tryd.prog 20 #[.agg #[.string nb, .int .u8 (k : Int), .int .i64 m, .string u, .string x], .agg #[.int .i64 n, .string v, .string ⟨#[]⟩]] W fun e w' => e = .returned (.bool y1) ∧ Kept (fun _ => False) W w') : Calls Tryd.prog 7 #[.agg #[.string na, .int .u8 (o : Int), .int .i64 n, .string v, .string ⟨#[]⟩], .agg #[.string nb, .int .u8 (k : Int), .int .i64 m, .string u, .string x], .agg #[.int .i64 l, .string y, .string z]] w fun e w' => e = .returned (.bool true) ∧ Kept (fun _ => False) w w' := by
  have hW := awake_walk
  have hk0 : Kept (fun _ => False) w (((w.alloc (.cells #[.string na, .int .u8 (o : Int), .int .i64 n, .string v, .string ⟨#[]⟩] 31)).alloc (.cells #[.string nb, .int .u8 (k : Int), .int .i64 m, .string u, .string x] 31)).alloc (.cells #[.int .i64 l, .string y, .string z] 29)) := (((Kept.refl _ _).alloc _).alloc _).alloc _
  have HK := Lib.hid hk0
  have bA := ((Box.made w 31 #[.string na, .int .u8 (o : Int), .int .i64 n, .string v, .string ⟨#[]⟩]).after_alloc (.cells #[.string nb, .int .u8 (k : Int), .int .i64 m, .string u, .string x] 31)).after_alloc (.cells #[.int .i64 l, .string y, .string z] 29)
  have bB := (Box.made (w.alloc (.cells #[.string na, .int .u8 (o : Int), .int .i64 n, .string v, .string ⟨#[]⟩] 31)) 31 #[.string nb, .int .u8 (k : Int), .int .i64 m, .string u, .string x]).after_alloc (.cells #[.int .i64 l, .string y, .string z] 29)
  rw [World.size_alloc] at bB
  have bE := Box.made ((w.alloc (.cells #[.string na, .int .u8 (o : Int), .int .i64 n, .string v, .string ⟨#[]⟩] 31)).alloc (.cells #[.string nb, .int .u8 (k : Int), .int .i64 m, .string u, .string x] 31)) 29 #[.int .i64 l, .string y, .string z]
  rw [World.size_alloc, World.size_alloc] at bE
  have HA := Lib.hid bA
  have HB := Lib.hid bB
  have HE := Lib.hid bE
  clear hk0 bA bB bE
  go_enter Tryd.func7, Tryd.ntmps7
  go_wp2_with (first
    | (go_at_call 17; (first | with_reducible refine (hA _).mono ?_ | with_reducible refine (hB _).mono ?_ | with_reducible refine (hE _).mono ?_); rintro e w5 ⟨rfl, hk5⟩; have HA := Lib.hid (hk5.box HA.out (fun h => h)); have HB := Lib.hid (hk5.box HB.out (fun h => h)); have HE := Lib.hid (hk5.box HE.out (fun h => h)); have ax0 := HA.out.cell 0; have ax1 := HA.out.cell 1; have ax2 := HA.out.cell 2; have ax3 := HA.out.cell 3; have ax4 := HA.out.cell 4; have bx0 := HB.out.cell 0; have bx1 := HB.out.cell 1; have bx2 := HB.out.cell 2; have bx3 := HB.out.cell 3; have bx4 := HB.out.cell 4; have ex0 := HE.out.cell 0; have ex1 := HE.out.cell 1; have ex2 := HE.out.cell 2; have HK := Lib.hid (Kept.trans HK.out hk5 (fun _ _ h => h)); clear hk5)
    | (go_at_call 10; (first | with_reducible refine (hW _).mono ?_); rintro e w5 ⟨rfl, hk5⟩; have HA := Lib.hid (hk5.box HA.out (fun h => h)); have HB := Lib.hid (hk5.box HB.out (fun h => h)); have HE := Lib.hid (hk5.box HE.out (fun h => h)); have ax0 := HA.out.cell 0; have ax1 := HA.out.cell 1; have ax2 := HA.out.cell 2; have ax3 := HA.out.cell 3; have ax4 := HA.out.cell 4; have bx0 := HB.out.cell 0; have bx1 := HB.out.cell 1; have bx2 := HB.out.cell 2; have bx3 := HB.out.cell 3; have bx4 := HB.out.cell 4; have ex0 := HE.out.cell 0; have ex1 := HE.out.cell 1; have ex2 := HE.out.cell 2; have HK := Lib.hid (Kept.trans HK.out hk5 (fun _ _ h => h)); clear hk5)
    | fail)
  have hk7 : Kept (fun _ => False) w (w5.alloc (.cells #[.string na, .int .u8 (2), .int .i64 n, .string v, .string ⟨#[]⟩] 31)) := HK.out.alloc _
  have bA := HA.out.after_alloc (.cells #[.string na, .int .u8 (2), .int .i64 n, .string v, .string ⟨#[]⟩] 31)
  have bB := HB.out.after_alloc (.cells #[.string na, .int .u8 (2), .int .i64 n, .string v, .string ⟨#[]⟩] 31)
  have bE := HE.out.after_alloc (.cells #[.string na, .int .u8 (2), .int .i64 n, .string v, .string ⟨#[]⟩] 31)
  have bC := Box.made w5 31 #[.string na, .int .u8 (2), .int .i64 n, .string v, .string ⟨#[]⟩]
  generalize w5.alloc (.cells #[.string na, .int .u8 (2), .int .i64 n, .string v, .string ⟨#[]⟩] 31) = W7 at hk7 bA bB bE bC ⊢
  generalize w5.heap.size = gC at bC ⊢
  have HA := Lib.hid bA
  have HB := Lib.hid bB
  have HE := Lib.hid bE
  have HC := Lib.hid bC
  have HK := Lib.hid hk7
  clear hk7 bA bB bE bC
  obtain ⟨T, F, t0, ht0, hFk, hFs⟩ := class_of W7
  have qa0 : ∀ t, (F t).cell? ⟨w.heap.size, 0, none⟩ = some (.string na) := fun t => ((hFk t).box HA.out (fun h => h)).cell 0
  have qa1 : ∀ t, (F t).cell? ⟨w.heap.size, 1, none⟩ = some (.int .u8 (o : Int)) := fun t => ((hFk t).box HA.out (fun h => h)).cell 1
  have qa2 : ∀ t, (F t).cell? ⟨w.heap.size, 2, none⟩ = some (.int .i64 n) := fun t => ((hFk t).box HA.out (fun h => h)).cell 2
  have qa3 : ∀ t, (F t).cell? ⟨w.heap.size, 3, none⟩ = some (.string v) := fun t => ((hFk t).box HA.out (fun h => h)).cell 3
  have qa4 : ∀ t, (F t).cell? ⟨w.heap.size, 4, none⟩ = some (.string ⟨#[]⟩) := fun t => ((hFk t).box HA.out (fun h => h)).cell 4
  have qb0 : ∀ t, (F t).cell? ⟨w.heap.size + 1, 0, none⟩ = some (.string nb) := fun t => ((hFk t).box HB.out (fun h => h)).cell 0
  have qb1 : ∀ t, (F t).cell? ⟨w.heap.size + 1, 1, none⟩ = some (.int .u8 (k : Int)) := fun t => ((hFk t).box HB.out (fun h => h)).cell 1
  have qb2 : ∀ t, (F t).cell? ⟨w.heap.size + 1, 2, none⟩ = some (.int .i64 m) := fun t => ((hFk t).box HB.out (fun h => h)).cell 2
  have qb3 : ∀ t, (F t).cell? ⟨w.heap.size + 1, 3, none⟩ = some (.string u) := fun t => ((hFk t).box HB.out (fun h => h)).cell 3
  have qb4 : ∀ t, (F t).cell? ⟨w.heap.size + 1, 4, none⟩ = some (.string x) := fun t => ((hFk t).box HB.out (fun h => h)).cell 4
  have qe0 : ∀ t, (F t).cell? ⟨w.heap.size + 1 + 1, 0, none⟩ = some (.int .i64 l) := fun t => ((hFk t).box HE.out (fun h => h)).cell 0
  have qe1 : ∀ t, (F t).cell? ⟨w.heap.size + 1 + 1, 1, none⟩ = some (.string y) := fun t => ((hFk t).box HE.out (fun h => h)).cell 1
  have qe2 : ∀ t, (F t).cell? ⟨w.heap.size + 1 + 1, 2, none⟩ = some (.string z) := fun t => ((hFk t).box HE.out (fun h => h)).cell 2
  have qc0 : ∀ t, (F t).cell? ⟨gC, 0, none⟩ = some (.string na) := fun t => ((hFk t).box HC.out (fun h => h)).cell 0
  have qc1 : ∀ t, (F t).cell? ⟨gC, 1, none⟩ = some (.int .u8 (2)) := fun t => ((hFk t).box HC.out (fun h => h)).cell 1
  have qc2 : ∀ t, (F t).cell? ⟨gC, 2, none⟩ = some (.int .i64 n) := fun t => ((hFk t).box HC.out (fun h => h)).cell 2
  have qc3 : ∀ t, (F t).cell? ⟨gC, 3, none⟩ = some (.string v) := fun t => ((hFk t).box HC.out (fun h => h)).cell 3
  have qc4 : ∀ t, (F t).cell? ⟨gC, 4, none⟩ = some (.string ⟨#[]⟩) := fun t => ((hFk t).box HC.out (fun h => h)).cell 4
  have HFK := Lib.hid hFk
  have HFS := Lib.hid hFs
  clear hFk hFs
  have hne : Nonempty T := ⟨t0⟩
  refine wp_region_class F t0 ht0 (by kernel_rfl) (by kernel_rfl) ?_
  repeat (go_big_quiet_step (first
    | (go_at_call 18; (first | with_reducible exact class_call HFS.out (M1 _)))
    | (go_at_call 20; (first | with_reducible exact class_call HFS.out (H1 _)))))
  refine wpQuiet_nil ?_
  rintro _ ⟨tz, rfl⟩
  have hkz := HK.out.trans (HFK.out tz) (fun _ _ h => h)
  have HA0 := HFK.out tz
  have HA := Lib.hid (HA0.box HA.out (fun h => h))
  have HB := Lib.hid (HA0.box HB.out (fun h => h))
  have HE := Lib.hid (HA0.box HE.out (fun h => h))
  have HC := Lib.hid (HA0.box HC.out (fun h => h))
  have ay0 := HA.out.cell 0
  have ay1 := HA.out.cell 1
  have ay2 := HA.out.cell 2
  have ay3 := HA.out.cell 3
  have ay4 := HA.out.cell 4
  have by0 := HB.out.cell 0
  have by1 := HB.out.cell 1
  have by2 := HB.out.cell 2
  have by3 := HB.out.cell 3
  have by4 := HB.out.cell 4
  have ey0 := HE.out.cell 0
  have ey1 := HE.out.cell 1
  have ey2 := HE.out.cell 2
  have cy0 := HC.out.cell 0
  have cy1 := HC.out.cell 1
  have cy2 := HC.out.cell 2
  have cy3 := HC.out.cell 3
  have cy4 := HC.out.cell 4
  have HK := Lib.hid hkz
  clear hkz HA0
  have hyy : (y1 != y1) = false := by cases y1 <;> rfl
  go_wp2_with fail
  go_ret
  exact ⟨rfl, HK.out⟩
set_option maxRecDepth 100000 in
set_option maxHeartbeats 2000000 in
theorem spanboth_x (na : ByteArray) (o : Nat) (n : Int) (v r : ByteArray) (nb : ByteArray) (k : Nat) (m : Int) (u : ByteArray) (l : Int) (y z : ByteArray) (y1 : Bool) (w : World) (hA : ∀ W : World, Calls Tryd.prog 17 #[.agg #[.int .i64 n, .string v, .string r]] W fun e w' => e = .returned (.bool false) ∧ Kept (fun _ => False) W w') (hB : ∀ W : World, Calls Tryd.prog 17 #[.agg #[.int .i64 m, .string u, .string ⟨#[]⟩]] W fun e w' => e = .returned (.bool false) ∧ Kept (fun _ => False) W w') (hE : ∀ W : World, Calls Tryd.prog 17 #[.agg #[.int .i64 l, .string y, .string z]] W fun e w' => e = .returned (.bool false) ∧ Kept (fun _ => False) W w') (M1 : ∀ W : World, Calls Tryd.prog 18 #[.agg #[.string na, .int .u8 (2), .int .i64 n, .string v, .string r], .agg #[.string nb, .int .u8 (k : Int), .int .i64 m, .string u, .string ⟨#[]⟩]] W fun e w' => e = .returned (.bool y1) ∧ Kept (fun _ => False) W w') (H1 : ∀ W : World, Calls Tryd.prog 20 #[.agg #[.string nb, .int .u8 (k : Int), .int .i64 m, .string u, .string ⟨#[]⟩], .agg #[.int .i64 n, .string v, .string r]] W fun e w' => e = .returned (.bool y1) ∧ Kept (fun _ => False) W w') (nr : r ≠ ⟨#[]⟩) : Calls Tryd.prog 7 #[.agg #[.string na, .int .u8 (o : Int), .int .i64 n, .string v, .string r], .agg #[.string nb, .int .u8 (k : Int), .int .i64 m, .string u, .string ⟨#[]⟩], .agg #[.int .i64 l, .string y, .string z]] w fun e w' => e = .returned (.bool true) ∧ Kept (fun _ => False) w w' := by
  have hW := awake_walk
  obtain ⟨gr, gr2⟩ := text_ne nr
  have hk0 : Kept (fun _ => False) w (((w.alloc (.cells #[.string na, .int .u8 (o : Int), .int .i64 n, .string v, .string r] 31)).alloc (.cells #[.string nb, .int .u8 (k : Int), .int .i64 m, .string u, .string ⟨#[]⟩] 31)).alloc (.cells #[.int .i64 l, .string y, .string z] 29)) := (((Kept.refl _ _).alloc _).alloc _).alloc _
  have HK := Lib.hid hk0
  have bA := ((Box.made w 31 #[.string na, .int .u8 (o : Int), .int .i64 n, .string v, .string r]).after_alloc (.cells #[.string nb, .int .u8 (k : Int), .int .i64 m, .string u, .string ⟨#[]⟩] 31)).after_alloc (.cells #[.int .i64 l, .string y, .string z] 29)
  have bB := (Box.made (w.alloc (.cells #[.string na, .int .u8 (o : Int), .int .i64 n, .string v, .string r] 31)) 31 #[.string nb, .int .u8 (k : Int), .int .i64 m, .string u, .string ⟨#[]⟩]).after_alloc (.cells #[.int .i64 l, .string y, .string z] 29)
  rw [World.size_alloc] at bB
  have bE := Box.made ((w.alloc (.cells #[.string na, .int .u8 (o : Int), .int .i64 n, .string v, .string r] 31)).alloc (.cells #[.string nb, .int .u8 (k : Int), .int .i64 m, .string u, .string ⟨#[]⟩] 31)) 29 #[.int .i64 l, .string y, .string z]
  rw [World.size_alloc, World.size_alloc] at bE
  have HA := Lib.hid bA
  have HB := Lib.hid bB
  have HE := Lib.hid bE
  clear hk0 bA bB bE
  go_enter Tryd.func7, Tryd.ntmps7
  go_wp2_with (first
    | (go_at_call 17; (first | with_reducible refine (hA _).mono ?_ | with_reducible refine (hB _).mono ?_ | with_reducible refine (hE _).mono ?_); rintro e w5 ⟨rfl, hk5⟩; have HA := Lib.hid (hk5.box HA.out (fun h => h)); have HB := Lib.hid (hk5.box HB.out (fun h => h)); have HE := Lib.hid (hk5.box HE.out (fun h => h)); have ax0 := HA.out.cell 0; have ax1 := HA.out.cell 1; have ax2 := HA.out.cell 2; have ax3 := HA.out.cell 3; have ax4 := HA.out.cell 4; have bx0 := HB.out.cell 0; have bx1 := HB.out.cell 1; have bx2 := HB.out.cell 2; have bx3 := HB.out.cell 3; have bx4 := HB.out.cell 4; have ex0 := HE.out.cell 0; have ex1 := HE.out.cell 1; have ex2 := HE.out.cell 2; have HK := Lib.hid (Kept.trans HK.out hk5 (fun _ _ h => h)); clear hk5)
    | (go_at_call 10; (first | with_reducible refine (hW _).mono ?_); rintro e w5 ⟨rfl, hk5⟩; have HA := Lib.hid (hk5.box HA.out (fun h => h)); have HB := Lib.hid (hk5.box HB.out (fun h => h)); have HE := Lib.hid (hk5.box HE.out (fun h => h)); have ax0 := HA.out.cell 0; have ax1 := HA.out.cell 1; have ax2 := HA.out.cell 2; have ax3 := HA.out.cell 3; have ax4 := HA.out.cell 4; have bx0 := HB.out.cell 0; have bx1 := HB.out.cell 1; have bx2 := HB.out.cell 2; have bx3 := HB.out.cell 3; have bx4 := HB.out.cell 4; have ex0 := HE.out.cell 0; have ex1 := HE.out.cell 1; have ex2 := HE.out.cell 2; have HK := Lib.hid (Kept.trans HK.out hk5 (fun _ _ h => h)); clear hk5)
    | fail)
  have hk7 : Kept (fun _ => False) w (w5.alloc (.cells #[.string na, .int .u8 (2), .int .i64 n, .string v, .string r] 31)) := HK.out.alloc _
  have bA := HA.out.after_alloc (.cells #[.string na, .int .u8 (2), .int .i64 n, .string v, .string r] 31)
  have bB := HB.out.after_alloc (.cells #[.string na, .int .u8 (2), .int .i64 n, .string v, .string r] 31)
  have bE := HE.out.after_alloc (.cells #[.string na, .int .u8 (2), .int .i64 n, .string v, .string r] 31)
  have bC := Box.made w5 31 #[.string na, .int .u8 (2), .int .i64 n, .string v, .string r]
  generalize w5.alloc (.cells #[.string na, .int .u8 (2), .int .i64 n, .string v, .string r] 31) = W7 at hk7 bA bB bE bC ⊢
  generalize w5.heap.size = gC at bC ⊢
  have HA := Lib.hid bA
  have HB := Lib.hid bB
  have HE := Lib.hid bE
  have HC := Lib.hid bC
  have HK := Lib.hid hk7
  clear hk7 bA bB bE bC
  obtain ⟨T, F, t0, ht0, hFk, hFs⟩ := class_of W7
  have qa0 : ∀ t, (F t).cell? ⟨w.heap.size, 0, none⟩ = some (.string na) := fun t => ((hFk t).box HA.out (fun h => h)).cell 0
  have qa1 : ∀ t, (F t).cell? ⟨w.heap.size, 1, none⟩ = some (.int .u8 (o : Int)) := fun t => ((hFk t).box HA.out (fun h => h)).cell 1
  have qa2 : ∀ t, (F t).cell? ⟨w.heap.size, 2, none⟩ = some (.int .i64 n) := fun t => ((hFk t).box HA.out (fun h => h)).cell 2
  have qa3 : ∀ t, (F t).cell? ⟨w.heap.size, 3, none⟩ = some (.string v) := fun t => ((hFk t).box HA.out (fun h => h)).cell 3
  have qa4 : ∀ t, (F t).cell? ⟨w.heap.size, 4, none⟩ = some (.string r) := fun t => ((hFk t).box HA.out (fun h => h)).cell 4
  have qb0 : ∀ t, (F t).cell? ⟨w.heap.size + 1, 0, none⟩ = some (.string nb) := fun t => ((hFk t).box HB.out (fun h => h)).cell 0
  have qb1 : ∀ t, (F t).cell? ⟨w.heap.size + 1, 1, none⟩ = some (.int .u8 (k : Int)) := fun t => ((hFk t).box HB.out (fun h => h)).cell 1
  have qb2 : ∀ t, (F t).cell? ⟨w.heap.size + 1, 2, none⟩ = some (.int .i64 m) := fun t => ((hFk t).box HB.out (fun h => h)).cell 2
  have qb3 : ∀ t, (F t).cell? ⟨w.heap.size + 1, 3, none⟩ = some (.string u) := fun t => ((hFk t).box HB.out (fun h => h)).cell 3
  have qb4 : ∀ t, (F t).cell? ⟨w.heap.size + 1, 4, none⟩ = some (.string ⟨#[]⟩) := fun t => ((hFk t).box HB.out (fun h => h)).cell 4
  have qe0 : ∀ t, (F t).cell? ⟨w.heap.size + 1 + 1, 0, none⟩ = some (.int .i64 l) := fun t => ((hFk t).box HE.out (fun h => h)).cell 0
  have qe1 : ∀ t, (F t).cell? ⟨w.heap.size + 1 + 1, 1, none⟩ = some (.string y) := fun t => ((hFk t).box HE.out (fun h => h)).cell 1
  have qe2 : ∀ t, (F t).cell? ⟨w.heap.size + 1 + 1, 2, none⟩ = some (.string z) := fun t => ((hFk t).box HE.out (fun h => h)).cell 2
  have qc0 : ∀ t, (F t).cell? ⟨gC, 0, none⟩ = some (.string na) := fun t => ((hFk t).box HC.out (fun h => h)).cell 0
  have qc1 : ∀ t, (F t).cell? ⟨gC, 1, none⟩ = some (.int .u8 (2)) := fun t => ((hFk t).box HC.out (fun h => h)).cell 1
  have qc2 : ∀ t, (F t).cell? ⟨gC, 2, none⟩ = some (.int .i64 n) := fun t => ((hFk t).box HC.out (fun h => h)).cell 2
  have qc3 : ∀ t, (F t).cell? ⟨gC, 3, none⟩ = some (.string v) := fun t => ((hFk t).box HC.out (fun h => h)).cell 3
  have qc4 : ∀ t, (F t).cell? ⟨gC, 4, none⟩ = some (.string r) := fun t => ((hFk t).box HC.out (fun h => h)).cell 4
  have HFK := Lib.hid hFk
  have HFS := Lib.hid hFs
  clear hFk hFs
  have hne : Nonempty T := ⟨t0⟩
  refine wp_region_class F t0 ht0 (by kernel_rfl) (by kernel_rfl) ?_
  repeat (go_big_quiet_step (first
    | (go_at_call 18; (first | with_reducible exact class_call HFS.out (M1 _)))
    | (go_at_call 20; (first | with_reducible exact class_call HFS.out (H1 _)))))
  refine wpQuiet_nil ?_
  rintro _ ⟨tz, rfl⟩
  have hkz := HK.out.trans (HFK.out tz) (fun _ _ h => h)
  have HA0 := HFK.out tz
  have HA := Lib.hid (HA0.box HA.out (fun h => h))
  have HB := Lib.hid (HA0.box HB.out (fun h => h))
  have HE := Lib.hid (HA0.box HE.out (fun h => h))
  have HC := Lib.hid (HA0.box HC.out (fun h => h))
  have ay0 := HA.out.cell 0
  have ay1 := HA.out.cell 1
  have ay2 := HA.out.cell 2
  have ay3 := HA.out.cell 3
  have ay4 := HA.out.cell 4
  have by0 := HB.out.cell 0
  have by1 := HB.out.cell 1
  have by2 := HB.out.cell 2
  have by3 := HB.out.cell 3
  have by4 := HB.out.cell 4
  have ey0 := HE.out.cell 0
  have ey1 := HE.out.cell 1
  have ey2 := HE.out.cell 2
  have cy0 := HC.out.cell 0
  have cy1 := HC.out.cell 1
  have cy2 := HC.out.cell 2
  have cy3 := HC.out.cell 3
  have cy4 := HC.out.cell 4
  have HK := Lib.hid hkz
  clear hkz HA0
  have hyy : (y1 != y1) = false := by cases y1 <;> rfl
  go_wp2_with fail
  go_ret
  exact ⟨rfl, HK.out⟩
set_option maxRecDepth 100000 in
set_option maxHeartbeats 2000000 in
theorem spanboth_z (na : ByteArray) (o : Nat) (n : Int) (v r : ByteArray) (nb : ByteArray) (k : Nat) (m : Int) (u x : ByteArray) (l : Int) (y : ByteArray) (y1 : Bool) (w : World) (hA : ∀ W : World, Calls Tryd.prog 17 #[.agg #[.int .i64 n, .string v, .string r]] W fun e w' => e = .returned (.bool false) ∧ Kept (fun _ => False) W w') (hB : ∀ W : World, Calls Tryd.prog 17 #[.agg #[.int .i64 m, .string u, .string x]] W fun e w' => e = .returned (.bool false) ∧ Kept (fun _ => False) W w') (hE : ∀ W : World, Calls Tryd.prog 17 #[.agg #[.int .i64 l, .string y, .string ⟨#[]⟩]] W fun e w' => e = .returned (.bool false) ∧ Kept (fun _ => False) W w') (M1 : ∀ W : World, Calls Tryd.prog 18 #[.agg #[.string na, .int .u8 (2), .int .i64 n, .string v, .string r], .agg #[.string nb, .int .u8 (k : Int), .int .i64 m, .string u, .string x]] W fun e w' => e = .returned (.bool y1) ∧ Kept (fun _ => False) W w') (H1 : ∀ W : World, Calls Tryd.prog 20 #[.agg #[.string nb, .int .u8 (k : Int), .int .i64 m, .string u, .string x], .agg #[.int .i64 n, .string v, .string r]] W fun e w' => e = .returned (.bool y1) ∧ Kept (fun _ => False) W w') (nr : r ≠ ⟨#[]⟩) (nx : x ≠ ⟨#[]⟩) : Calls Tryd.prog 7 #[.agg #[.string na, .int .u8 (o : Int), .int .i64 n, .string v, .string r], .agg #[.string nb, .int .u8 (k : Int), .int .i64 m, .string u, .string x], .agg #[.int .i64 l, .string y, .string ⟨#[]⟩]] w fun e w' => e = .returned (.bool true) ∧ Kept (fun _ => False) w w' := by
  have hW := awake_walk
  obtain ⟨gr, gr2⟩ := text_ne nr
  obtain ⟨gx, gx2⟩ := text_ne nx
  have hk0 : Kept (fun _ => False) w (((w.alloc (.cells #[.string na, .int .u8 (o : Int), .int .i64 n, .string v, .string r] 31)).alloc (.cells #[.string nb, .int .u8 (k : Int), .int .i64 m, .string u, .string x] 31)).alloc (.cells #[.int .i64 l, .string y, .string ⟨#[]⟩] 29)) := (((Kept.refl _ _).alloc _).alloc _).alloc _
  have HK := Lib.hid hk0
  have bA := ((Box.made w 31 #[.string na, .int .u8 (o : Int), .int .i64 n, .string v, .string r]).after_alloc (.cells #[.string nb, .int .u8 (k : Int), .int .i64 m, .string u, .string x] 31)).after_alloc (.cells #[.int .i64 l, .string y, .string ⟨#[]⟩] 29)
  have bB := (Box.made (w.alloc (.cells #[.string na, .int .u8 (o : Int), .int .i64 n, .string v, .string r] 31)) 31 #[.string nb, .int .u8 (k : Int), .int .i64 m, .string u, .string x]).after_alloc (.cells #[.int .i64 l, .string y, .string ⟨#[]⟩] 29)
  rw [World.size_alloc] at bB
  have bE := Box.made ((w.alloc (.cells #[.string na, .int .u8 (o : Int), .int .i64 n, .string v, .string r] 31)).alloc (.cells #[.string nb, .int .u8 (k : Int), .int .i64 m, .string u, .string x] 31)) 29 #[.int .i64 l, .string y, .string ⟨#[]⟩]
  rw [World.size_alloc, World.size_alloc] at bE
  have HA := Lib.hid bA
  have HB := Lib.hid bB
  have HE := Lib.hid bE
  clear hk0 bA bB bE
  go_enter Tryd.func7, Tryd.ntmps7
  go_wp2_with (first
    | (go_at_call 17; (first | with_reducible refine (hA _).mono ?_ | with_reducible refine (hB _).mono ?_ | with_reducible refine (hE _).mono ?_); rintro e w5 ⟨rfl, hk5⟩; have HA := Lib.hid (hk5.box HA.out (fun h => h)); have HB := Lib.hid (hk5.box HB.out (fun h => h)); have HE := Lib.hid (hk5.box HE.out (fun h => h)); have ax0 := HA.out.cell 0; have ax1 := HA.out.cell 1; have ax2 := HA.out.cell 2; have ax3 := HA.out.cell 3; have ax4 := HA.out.cell 4; have bx0 := HB.out.cell 0; have bx1 := HB.out.cell 1; have bx2 := HB.out.cell 2; have bx3 := HB.out.cell 3; have bx4 := HB.out.cell 4; have ex0 := HE.out.cell 0; have ex1 := HE.out.cell 1; have ex2 := HE.out.cell 2; have HK := Lib.hid (Kept.trans HK.out hk5 (fun _ _ h => h)); clear hk5)
    | (go_at_call 10; (first | with_reducible refine (hW _).mono ?_); rintro e w5 ⟨rfl, hk5⟩; have HA := Lib.hid (hk5.box HA.out (fun h => h)); have HB := Lib.hid (hk5.box HB.out (fun h => h)); have HE := Lib.hid (hk5.box HE.out (fun h => h)); have ax0 := HA.out.cell 0; have ax1 := HA.out.cell 1; have ax2 := HA.out.cell 2; have ax3 := HA.out.cell 3; have ax4 := HA.out.cell 4; have bx0 := HB.out.cell 0; have bx1 := HB.out.cell 1; have bx2 := HB.out.cell 2; have bx3 := HB.out.cell 3; have bx4 := HB.out.cell 4; have ex0 := HE.out.cell 0; have ex1 := HE.out.cell 1; have ex2 := HE.out.cell 2; have HK := Lib.hid (Kept.trans HK.out hk5 (fun _ _ h => h)); clear hk5)
    | fail)
  have hk7 : Kept (fun _ => False) w (w5.alloc (.cells #[.string na, .int .u8 (2), .int .i64 n, .string v, .string r] 31)) := HK.out.alloc _
  have bA := HA.out.after_alloc (.cells #[.string na, .int .u8 (2), .int .i64 n, .string v, .string r] 31)
  have bB := HB.out.after_alloc (.cells #[.string na, .int .u8 (2), .int .i64 n, .string v, .string r] 31)
  have bE := HE.out.after_alloc (.cells #[.string na, .int .u8 (2), .int .i64 n, .string v, .string r] 31)
  have bC := Box.made w5 31 #[.string na, .int .u8 (2), .int .i64 n, .string v, .string r]
  generalize w5.alloc (.cells #[.string na, .int .u8 (2), .int .i64 n, .string v, .string r] 31) = W7 at hk7 bA bB bE bC ⊢
  generalize w5.heap.size = gC at bC ⊢
  have HA := Lib.hid bA
  have HB := Lib.hid bB
  have HE := Lib.hid bE
  have HC := Lib.hid bC
  have HK := Lib.hid hk7
  clear hk7 bA bB bE bC
  obtain ⟨T, F, t0, ht0, hFk, hFs⟩ := class_of W7
  have qa0 : ∀ t, (F t).cell? ⟨w.heap.size, 0, none⟩ = some (.string na) := fun t => ((hFk t).box HA.out (fun h => h)).cell 0
  have qa1 : ∀ t, (F t).cell? ⟨w.heap.size, 1, none⟩ = some (.int .u8 (o : Int)) := fun t => ((hFk t).box HA.out (fun h => h)).cell 1
  have qa2 : ∀ t, (F t).cell? ⟨w.heap.size, 2, none⟩ = some (.int .i64 n) := fun t => ((hFk t).box HA.out (fun h => h)).cell 2
  have qa3 : ∀ t, (F t).cell? ⟨w.heap.size, 3, none⟩ = some (.string v) := fun t => ((hFk t).box HA.out (fun h => h)).cell 3
  have qa4 : ∀ t, (F t).cell? ⟨w.heap.size, 4, none⟩ = some (.string r) := fun t => ((hFk t).box HA.out (fun h => h)).cell 4
  have qb0 : ∀ t, (F t).cell? ⟨w.heap.size + 1, 0, none⟩ = some (.string nb) := fun t => ((hFk t).box HB.out (fun h => h)).cell 0
  have qb1 : ∀ t, (F t).cell? ⟨w.heap.size + 1, 1, none⟩ = some (.int .u8 (k : Int)) := fun t => ((hFk t).box HB.out (fun h => h)).cell 1
  have qb2 : ∀ t, (F t).cell? ⟨w.heap.size + 1, 2, none⟩ = some (.int .i64 m) := fun t => ((hFk t).box HB.out (fun h => h)).cell 2
  have qb3 : ∀ t, (F t).cell? ⟨w.heap.size + 1, 3, none⟩ = some (.string u) := fun t => ((hFk t).box HB.out (fun h => h)).cell 3
  have qb4 : ∀ t, (F t).cell? ⟨w.heap.size + 1, 4, none⟩ = some (.string x) := fun t => ((hFk t).box HB.out (fun h => h)).cell 4
  have qe0 : ∀ t, (F t).cell? ⟨w.heap.size + 1 + 1, 0, none⟩ = some (.int .i64 l) := fun t => ((hFk t).box HE.out (fun h => h)).cell 0
  have qe1 : ∀ t, (F t).cell? ⟨w.heap.size + 1 + 1, 1, none⟩ = some (.string y) := fun t => ((hFk t).box HE.out (fun h => h)).cell 1
  have qe2 : ∀ t, (F t).cell? ⟨w.heap.size + 1 + 1, 2, none⟩ = some (.string ⟨#[]⟩) := fun t => ((hFk t).box HE.out (fun h => h)).cell 2
  have qc0 : ∀ t, (F t).cell? ⟨gC, 0, none⟩ = some (.string na) := fun t => ((hFk t).box HC.out (fun h => h)).cell 0
  have qc1 : ∀ t, (F t).cell? ⟨gC, 1, none⟩ = some (.int .u8 (2)) := fun t => ((hFk t).box HC.out (fun h => h)).cell 1
  have qc2 : ∀ t, (F t).cell? ⟨gC, 2, none⟩ = some (.int .i64 n) := fun t => ((hFk t).box HC.out (fun h => h)).cell 2
  have qc3 : ∀ t, (F t).cell? ⟨gC, 3, none⟩ = some (.string v) := fun t => ((hFk t).box HC.out (fun h => h)).cell 3
  have qc4 : ∀ t, (F t).cell? ⟨gC, 4, none⟩ = some (.string r) := fun t => ((hFk t).box HC.out (fun h => h)).cell 4
  have HFK := Lib.hid hFk
  have HFS := Lib.hid hFs
  clear hFk hFs
  have hne : Nonempty T := ⟨t0⟩
  refine wp_region_class F t0 ht0 (by kernel_rfl) (by kernel_rfl) ?_
  repeat (go_big_quiet_step (first
    | (go_at_call 18; (first | with_reducible exact class_call HFS.out (M1 _)))
    | (go_at_call 20; (first | with_reducible exact class_call HFS.out (H1 _)))))
  refine wpQuiet_nil ?_
  rintro _ ⟨tz, rfl⟩
  have hkz := HK.out.trans (HFK.out tz) (fun _ _ h => h)
  have HA0 := HFK.out tz
  have HA := Lib.hid (HA0.box HA.out (fun h => h))
  have HB := Lib.hid (HA0.box HB.out (fun h => h))
  have HE := Lib.hid (HA0.box HE.out (fun h => h))
  have HC := Lib.hid (HA0.box HC.out (fun h => h))
  have ay0 := HA.out.cell 0
  have ay1 := HA.out.cell 1
  have ay2 := HA.out.cell 2
  have ay3 := HA.out.cell 3
  have ay4 := HA.out.cell 4
  have by0 := HB.out.cell 0
  have by1 := HB.out.cell 1
  have by2 := HB.out.cell 2
  have by3 := HB.out.cell 3
  have by4 := HB.out.cell 4
  have ey0 := HE.out.cell 0
  have ey1 := HE.out.cell 1
  have ey2 := HE.out.cell 2
  have cy0 := HC.out.cell 0
  have cy1 := HC.out.cell 1
  have cy2 := HC.out.cell 2
  have cy3 := HC.out.cell 3
  have cy4 := HC.out.cell 4
  have HK := Lib.hid hkz
  clear hkz HA0
  have hyy : (y1 != y1) = false := by cases y1 <;> rfl
  go_wp2_with fail
  go_ret
  exact ⟨rfl, HK.out⟩
set_option maxRecDepth 100000 in
set_option maxHeartbeats 2000000 in
theorem spanboth_main (na : ByteArray) (o : Nat) (n : Int) (v r : ByteArray) (nb : ByteArray) (k : Nat) (m : Int) (u x : ByteArray) (l : Int) (y z : ByteArray) (x1 x2 x3 y1 : Bool) (w : World) (hA : ∀ W : World, Calls Tryd.prog 17 #[.agg #[.int .i64 n, .string v, .string r]] W fun e w' => e = .returned (.bool false) ∧ Kept (fun _ => False) W w') (hB : ∀ W : World, Calls Tryd.prog 17 #[.agg #[.int .i64 m, .string u, .string x]] W fun e w' => e = .returned (.bool false) ∧ Kept (fun _ => False) W w') (hE : ∀ W : World, Calls Tryd.prog 17 #[.agg #[.int .i64 l, .string y, .string z]] W fun e w' => e = .returned (.bool false) ∧ Kept (fun _ => False) W w') (M1 : ∀ W : World, Calls Tryd.prog 18 #[.agg #[.string na, .int .u8 (2), .int .i64 n, .string v, .string r], .agg #[.string nb, .int .u8 (k : Int), .int .i64 m, .string u, .string x]] W fun e w' => e = .returned (.bool y1) ∧ Kept (fun _ => False) W w') (H1 : ∀ W : World, Calls Tryd.prog 20 #[.agg #[.string nb, .int .u8 (k : Int), .int .i64 m, .string u, .string x], .agg #[.int .i64 n, .string v, .string r]] W fun e w' => e = .returned (.bool y1) ∧ Kept (fun _ => False) W w') (nr : r ≠ ⟨#[]⟩) (nx : x ≠ ⟨#[]⟩) (nz : z ≠ ⟨#[]⟩) (H2 : ∀ W : World, Calls Tryd.prog 20 #[.agg #[.string na, .int .u8 (o : Int), .int .i64 n, .string v, .string r], .agg #[.int .i64 l, .string y, .string z]] W fun e w' => e = .returned (.bool x1) ∧ Kept (fun _ => False) W w') (H3 : ∀ W : World, Calls Tryd.prog 20 #[.agg #[.string nb, .int .u8 (k : Int), .int .i64 m, .string u, .string x], .agg #[.int .i64 l, .string y, .string z]] W fun e w' => e = .returned (.bool x2) ∧ Kept (fun _ => False) W w') (M2 : ∀ W : World, Calls Tryd.prog 18 #[.agg #[.string na, .int .u8 (o : Int), .int .i64 n, .string v, .string r], .agg #[.string nb, .int .u8 (k : Int), .int .i64 m, .string u, .string x]] W fun e w' => e = .returned (.bool x3) ∧ Kept (fun _ => False) W w') (hx : x1 = true → x2 = true → x3 = true) : Calls Tryd.prog 7 #[.agg #[.string na, .int .u8 (o : Int), .int .i64 n, .string v, .string r], .agg #[.string nb, .int .u8 (k : Int), .int .i64 m, .string u, .string x], .agg #[.int .i64 l, .string y, .string z]] w fun e w' => e = .returned (.bool true) ∧ Kept (fun _ => False) w w' := by
  have hW := awake_walk
  obtain ⟨gr, gr2⟩ := text_ne nr
  obtain ⟨gx, gx2⟩ := text_ne nx
  obtain ⟨gz, gz2⟩ := text_ne nz
  have hx : x1 = false ∨ (x1 = true ∧ x2 = false) ∨ (x1 = true ∧ x2 = true ∧ x3 = true) := by cases x1 <;> cases x2 <;> simp_all
  have hk0 : Kept (fun _ => False) w (((w.alloc (.cells #[.string na, .int .u8 (o : Int), .int .i64 n, .string v, .string r] 31)).alloc (.cells #[.string nb, .int .u8 (k : Int), .int .i64 m, .string u, .string x] 31)).alloc (.cells #[.int .i64 l, .string y, .string z] 29)) := (((Kept.refl _ _).alloc _).alloc _).alloc _
  have HK := Lib.hid hk0
  have bA := ((Box.made w 31 #[.string na, .int .u8 (o : Int), .int .i64 n, .string v, .string r]).after_alloc (.cells #[.string nb, .int .u8 (k : Int), .int .i64 m, .string u, .string x] 31)).after_alloc (.cells #[.int .i64 l, .string y, .string z] 29)
  have bB := (Box.made (w.alloc (.cells #[.string na, .int .u8 (o : Int), .int .i64 n, .string v, .string r] 31)) 31 #[.string nb, .int .u8 (k : Int), .int .i64 m, .string u, .string x]).after_alloc (.cells #[.int .i64 l, .string y, .string z] 29)
  rw [World.size_alloc] at bB
  have bE := Box.made ((w.alloc (.cells #[.string na, .int .u8 (o : Int), .int .i64 n, .string v, .string r] 31)).alloc (.cells #[.string nb, .int .u8 (k : Int), .int .i64 m, .string u, .string x] 31)) 29 #[.int .i64 l, .string y, .string z]
  rw [World.size_alloc, World.size_alloc] at bE
  have HA := Lib.hid bA
  have HB := Lib.hid bB
  have HE := Lib.hid bE
  clear hk0 bA bB bE
  go_enter Tryd.func7, Tryd.ntmps7
  go_wp2_with (first
    | (go_at_call 17; (first | with_reducible refine (hA _).mono ?_ | with_reducible refine (hB _).mono ?_ | with_reducible refine (hE _).mono ?_); rintro e w5 ⟨rfl, hk5⟩; have HA := Lib.hid (hk5.box HA.out (fun h => h)); have HB := Lib.hid (hk5.box HB.out (fun h => h)); have HE := Lib.hid (hk5.box HE.out (fun h => h)); have ax0 := HA.out.cell 0; have ax1 := HA.out.cell 1; have ax2 := HA.out.cell 2; have ax3 := HA.out.cell 3; have ax4 := HA.out.cell 4; have bx0 := HB.out.cell 0; have bx1 := HB.out.cell 1; have bx2 := HB.out.cell 2; have bx3 := HB.out.cell 3; have bx4 := HB.out.cell 4; have ex0 := HE.out.cell 0; have ex1 := HE.out.cell 1; have ex2 := HE.out.cell 2; have HK := Lib.hid (Kept.trans HK.out hk5 (fun _ _ h => h)); clear hk5)
    | (go_at_call 10; (first | with_reducible refine (hW _).mono ?_); rintro e w5 ⟨rfl, hk5⟩; have HA := Lib.hid (hk5.box HA.out (fun h => h)); have HB := Lib.hid (hk5.box HB.out (fun h => h)); have HE := Lib.hid (hk5.box HE.out (fun h => h)); have ax0 := HA.out.cell 0; have ax1 := HA.out.cell 1; have ax2 := HA.out.cell 2; have ax3 := HA.out.cell 3; have ax4 := HA.out.cell 4; have bx0 := HB.out.cell 0; have bx1 := HB.out.cell 1; have bx2 := HB.out.cell 2; have bx3 := HB.out.cell 3; have bx4 := HB.out.cell 4; have ex0 := HE.out.cell 0; have ex1 := HE.out.cell 1; have ex2 := HE.out.cell 2; have HK := Lib.hid (Kept.trans HK.out hk5 (fun _ _ h => h)); clear hk5)
    | fail)
  have hk7 : Kept (fun _ => False) w (w5.alloc (.cells #[.string na, .int .u8 (2), .int .i64 n, .string v, .string r] 31)) := HK.out.alloc _
  have bA := HA.out.after_alloc (.cells #[.string na, .int .u8 (2), .int .i64 n, .string v, .string r] 31)
  have bB := HB.out.after_alloc (.cells #[.string na, .int .u8 (2), .int .i64 n, .string v, .string r] 31)
  have bE := HE.out.after_alloc (.cells #[.string na, .int .u8 (2), .int .i64 n, .string v, .string r] 31)
  have bC := Box.made w5 31 #[.string na, .int .u8 (2), .int .i64 n, .string v, .string r]
  generalize w5.alloc (.cells #[.string na, .int .u8 (2), .int .i64 n, .string v, .string r] 31) = W7 at hk7 bA bB bE bC ⊢
  generalize w5.heap.size = gC at bC ⊢
  have HA := Lib.hid bA
  have HB := Lib.hid bB
  have HE := Lib.hid bE
  have HC := Lib.hid bC
  have HK := Lib.hid hk7
  clear hk7 bA bB bE bC
  obtain ⟨T, F, t0, ht0, hFk, hFs⟩ := class_of W7
  have qa0 : ∀ t, (F t).cell? ⟨w.heap.size, 0, none⟩ = some (.string na) := fun t => ((hFk t).box HA.out (fun h => h)).cell 0
  have qa1 : ∀ t, (F t).cell? ⟨w.heap.size, 1, none⟩ = some (.int .u8 (o : Int)) := fun t => ((hFk t).box HA.out (fun h => h)).cell 1
  have qa2 : ∀ t, (F t).cell? ⟨w.heap.size, 2, none⟩ = some (.int .i64 n) := fun t => ((hFk t).box HA.out (fun h => h)).cell 2
  have qa3 : ∀ t, (F t).cell? ⟨w.heap.size, 3, none⟩ = some (.string v) := fun t => ((hFk t).box HA.out (fun h => h)).cell 3
  have qa4 : ∀ t, (F t).cell? ⟨w.heap.size, 4, none⟩ = some (.string r) := fun t => ((hFk t).box HA.out (fun h => h)).cell 4
  have qb0 : ∀ t, (F t).cell? ⟨w.heap.size + 1, 0, none⟩ = some (.string nb) := fun t => ((hFk t).box HB.out (fun h => h)).cell 0
  have qb1 : ∀ t, (F t).cell? ⟨w.heap.size + 1, 1, none⟩ = some (.int .u8 (k : Int)) := fun t => ((hFk t).box HB.out (fun h => h)).cell 1
  have qb2 : ∀ t, (F t).cell? ⟨w.heap.size + 1, 2, none⟩ = some (.int .i64 m) := fun t => ((hFk t).box HB.out (fun h => h)).cell 2
  have qb3 : ∀ t, (F t).cell? ⟨w.heap.size + 1, 3, none⟩ = some (.string u) := fun t => ((hFk t).box HB.out (fun h => h)).cell 3
  have qb4 : ∀ t, (F t).cell? ⟨w.heap.size + 1, 4, none⟩ = some (.string x) := fun t => ((hFk t).box HB.out (fun h => h)).cell 4
  have qe0 : ∀ t, (F t).cell? ⟨w.heap.size + 1 + 1, 0, none⟩ = some (.int .i64 l) := fun t => ((hFk t).box HE.out (fun h => h)).cell 0
  have qe1 : ∀ t, (F t).cell? ⟨w.heap.size + 1 + 1, 1, none⟩ = some (.string y) := fun t => ((hFk t).box HE.out (fun h => h)).cell 1
  have qe2 : ∀ t, (F t).cell? ⟨w.heap.size + 1 + 1, 2, none⟩ = some (.string z) := fun t => ((hFk t).box HE.out (fun h => h)).cell 2
  have qc0 : ∀ t, (F t).cell? ⟨gC, 0, none⟩ = some (.string na) := fun t => ((hFk t).box HC.out (fun h => h)).cell 0
  have qc1 : ∀ t, (F t).cell? ⟨gC, 1, none⟩ = some (.int .u8 (2)) := fun t => ((hFk t).box HC.out (fun h => h)).cell 1
  have qc2 : ∀ t, (F t).cell? ⟨gC, 2, none⟩ = some (.int .i64 n) := fun t => ((hFk t).box HC.out (fun h => h)).cell 2
  have qc3 : ∀ t, (F t).cell? ⟨gC, 3, none⟩ = some (.string v) := fun t => ((hFk t).box HC.out (fun h => h)).cell 3
  have qc4 : ∀ t, (F t).cell? ⟨gC, 4, none⟩ = some (.string r) := fun t => ((hFk t).box HC.out (fun h => h)).cell 4
  have HFK := Lib.hid hFk
  have HFS := Lib.hid hFs
  clear hFk hFs
  have hne : Nonempty T := ⟨t0⟩
  refine wp_region_class F t0 ht0 (by kernel_rfl) (by kernel_rfl) ?_
  repeat (go_big_quiet_step (first
    | (go_at_call 18; (first | with_reducible exact class_call HFS.out (M1 _)))
    | (go_at_call 20; (first | with_reducible exact class_call HFS.out (H1 _)))))
  refine wpQuiet_nil ?_
  rintro _ ⟨tz, rfl⟩
  have hkz := HK.out.trans (HFK.out tz) (fun _ _ h => h)
  have HA0 := HFK.out tz
  have HA := Lib.hid (HA0.box HA.out (fun h => h))
  have HB := Lib.hid (HA0.box HB.out (fun h => h))
  have HE := Lib.hid (HA0.box HE.out (fun h => h))
  have HC := Lib.hid (HA0.box HC.out (fun h => h))
  have ay0 := HA.out.cell 0
  have ay1 := HA.out.cell 1
  have ay2 := HA.out.cell 2
  have ay3 := HA.out.cell 3
  have ay4 := HA.out.cell 4
  have by0 := HB.out.cell 0
  have by1 := HB.out.cell 1
  have by2 := HB.out.cell 2
  have by3 := HB.out.cell 3
  have by4 := HB.out.cell 4
  have ey0 := HE.out.cell 0
  have ey1 := HE.out.cell 1
  have ey2 := HE.out.cell 2
  have cy0 := HC.out.cell 0
  have cy1 := HC.out.cell 1
  have cy2 := HC.out.cell 2
  have cy3 := HC.out.cell 3
  have cy4 := HC.out.cell 4
  have HK := Lib.hid hkz
  clear hkz HA0
  have hyy : (y1 != y1) = false := by cases y1 <;> rfl
  rcases hx with rfl | ⟨rfl, rfl⟩ | ⟨rfl, rfl, rfl⟩
  all_goals go_wp2_with (first
    | (go_at_call 20; (first | with_reducible refine (H2 _).mono ?_ | with_reducible refine (H3 _).mono ?_); rintro e w5 ⟨rfl, hk5⟩; have HA := Lib.hid (hk5.box HA.out (fun h => h)); have HB := Lib.hid (hk5.box HB.out (fun h => h)); have HE := Lib.hid (hk5.box HE.out (fun h => h)); have ax0 := HA.out.cell 0; have ax1 := HA.out.cell 1; have ax2 := HA.out.cell 2; have ax3 := HA.out.cell 3; have ax4 := HA.out.cell 4; have bx0 := HB.out.cell 0; have bx1 := HB.out.cell 1; have bx2 := HB.out.cell 2; have bx3 := HB.out.cell 3; have bx4 := HB.out.cell 4; have ex0 := HE.out.cell 0; have ex1 := HE.out.cell 1; have ex2 := HE.out.cell 2; have HK := Lib.hid (Kept.trans HK.out hk5 (fun _ _ h => h)); clear hk5)
    | (go_at_call 18; (first | with_reducible refine (M2 _).mono ?_); rintro e w5 ⟨rfl, hk5⟩; have HA := Lib.hid (hk5.box HA.out (fun h => h)); have HB := Lib.hid (hk5.box HB.out (fun h => h)); have HE := Lib.hid (hk5.box HE.out (fun h => h)); have ax0 := HA.out.cell 0; have ax1 := HA.out.cell 1; have ax2 := HA.out.cell 2; have ax3 := HA.out.cell 3; have ax4 := HA.out.cell 4; have bx0 := HB.out.cell 0; have bx1 := HB.out.cell 1; have bx2 := HB.out.cell 2; have bx3 := HB.out.cell 3; have bx4 := HB.out.cell 4; have ex0 := HE.out.cell 0; have ex1 := HE.out.cell 1; have ex2 := HE.out.cell 2; have HK := Lib.hid (Kept.trans HK.out hk5 (fun _ _ h => h)); clear hk5)
    | fail)
  all_goals go_ret
  all_goals exact ⟨rfl, HK.out⟩
end Go.Proofs.YtjjjelgjjdgldaaDoor
