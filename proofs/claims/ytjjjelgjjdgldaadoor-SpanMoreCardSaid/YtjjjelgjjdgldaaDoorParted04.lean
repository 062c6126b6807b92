/-
  The walk over the law SpanParted. Conditions: as each theorem states.
-/
import Derived.Test.YtjjjelgjjdgldaaDoorFace04
namespace Go.Proofs.YtjjjelgjjdgldaaDoor
open Go.RowKit Span Evr

set_option maxRecDepth 100000 in
set_option maxHeartbeats 2000000 in
theorem spanparted_longA (na : ByteArray) (o : Nat) (n : Int) (v r : ByteArray) (l : Int) (y z : ByteArray) (w : World) (hA : ∀ W : World, Calls Tryd.prog 17 #[.agg #[.int .i64 n, .string v, .string r]] W fun e w' => e = .returned (.bool true) ∧ Kept (fun _ => False) W w') : Calls Tryd.prog 9 #[.agg #[.string na, .int .u8 (o : Int), .int .i64 n, .string v, .string r], .agg #[.int .i64 l, .string y, .string z]] w fun e w' => e = .returned (.bool true) ∧ Kept (fun _ => False) w w' := by
  have hW := awake_walk
  have hk0 : Kept (fun _ => False) w ((w.alloc (.cells #[.string na, .int .u8 (o : Int), .int .i64 n, .string v, .string r] 31)).alloc (.cells #[.int .i64 l, .string y, .string z] 29)) := ((Kept.refl _ _).alloc _).alloc _
  have HK := Lib.hid hk0
  have bA := (Box.made w 31 #[.string na, .int .u8 (o : Int), .int .i64 n, .string v, .string r]).after_alloc (.cells #[.int .i64 l, .string y, .string z] 29)
  have bE := Box.made (w.alloc (.cells #[.string na, .int .u8 (o : Int), .int .i64 n, .string v, .string r] 31)) 29 #[.int .i64 l, .string y, .string z]
  rw [World.size_alloc] at bE
  have HA := Lib.hid bA
  have HE := Lib.hid bE
  clear hk0 bA bE
  go_enter Tryd.func9, Tryd.ntmps9
  go_wp2_with (first
    | (go_at_call 17; (first | with_reducible refine (hA _).mono ?_); rintro e w5 ⟨rfl, hk5⟩; have HA := Lib.hid (hk5.box HA.out (fun h => h)); have HE := Lib.hid (hk5.box HE.out (fun h => h)); have ax0 := HA.out.cell 0; have ax1 := HA.out.cell 1; have ax2 := HA.out.cell 2; have ax3 := HA.out.cell 3; have ax4 := HA.out.cell 4; have ex0 := HE.out.cell 0; have ex1 := HE.out.cell 1; have ex2 := HE.out.cell 2; have HK := Lib.hid (Kept.trans HK.out hk5 (fun _ _ h => h)); clear hk5)
    | (go_at_call 10; (first | with_reducible refine (hW _).mono ?_); rintro e w5 ⟨rfl, hk5⟩; have HA := Lib.hid (hk5.box HA.out (fun h => h)); have HE := Lib.hid (hk5.box HE.out (fun h => h)); have ax0 := HA.out.cell 0; have ax1 := HA.out.cell 1; have ax2 := HA.out.cell 2; have ax3 := HA.out.cell 3; have ax4 := HA.out.cell 4; have ex0 := HE.out.cell 0; have ex1 := HE.out.cell 1; have ex2 := HE.out.cell 2; have HK := Lib.hid (Kept.trans HK.out hk5 (fun _ _ h => h)); clear hk5)
    | fail)
  all_goals go_ret
  all_goals exact ⟨rfl, HK.out⟩
set_option maxRecDepth 100000 in
set_option maxHeartbeats 2000000 in
theorem spanparted_longE (na : ByteArray) (o : Nat) (n : Int) (v r : ByteArray) (l : Int) (y z : ByteArray) (w : World) (hA : ∀ W : World, Calls Tryd.prog 17 #[.agg #[.int .i64 n, .string v, .string r]] W fun e w' => e = .returned (.bool false) ∧ Kept (fun _ => False) W w') (hE : ∀ W : World, Calls Tryd.prog 17 #[.agg #[.int .i64 l, .string y, .string z]] W fun e w' => e = .returned (.bool true) ∧ Kept (fun _ => False) W w') : Calls Tryd.prog 9 #[.agg #[.string na, .int .u8 (o : Int), .int .i64 n, .string v, .string r], .agg #[.int .i64 l, .string y, .string z]] w fun e w' => e = .returned (.bool true) ∧ Kept (fun _ => False) w w' := by
  have hW := awake_walk
  have hk0 : Kept (fun _ => False) w ((w.alloc (.cells #[.string na, .int .u8 (o : Int), .int .i64 n, .string v, .string r] 31)).alloc (.cells #[.int .i64 l, .string y, .string z] 29)) := ((Kept.refl _ _).alloc _).alloc _
  have HK := Lib.hid hk0
  have bA := (Box.made w 31 #[.string na, .int .u8 (o : Int), .int .i64 n, .string v, .string r]).after_alloc (.cells #[.int .i64 l, .string y, .string z] 29)
  have bE := Box.made (w.alloc (.cells #[.string na, .int .u8 (o : Int), .int .i64 n, .string v, .string r] 31)) 29 #[.int .i64 l, .string y, .string z]
  rw [World.size_alloc] at bE
  have HA := Lib.hid bA
  have HE := Lib.hid bE
  clear hk0 bA bE
  go_enter Tryd.func9, Tryd.ntmps9
  go_wp2_with (first
    | (go_at_call 17; (first | with_reducible refine (hA _).mono ?_ | with_reducible refine (hE _).mono ?_); rintro e w5 ⟨rfl, hk5⟩; have HA := Lib.hid (hk5.box HA.out (fun h => h)); have HE := Lib.hid (hk5.box HE.out (fun h => h)); have ax0 := HA.out.cell 0; have ax1 := HA.out.cell 1; have ax2 := HA.out.cell 2; have ax3 := HA.out.cell 3; have ax4 := HA.out.cell 4; have ex0 := HE.out.cell 0; have ex1 := HE.out.cell 1; have ex2 := HE.out.cell 2; have HK := Lib.hid (Kept.trans HK.out hk5 (fun _ _ h => h)); clear hk5)
    | (go_at_call 10; (first | with_reducible refine (hW _).mono ?_); rintro e w5 ⟨rfl, hk5⟩; have HA := Lib.hid (hk5.box HA.out (fun h => h)); have HE := Lib.hid (hk5.box HE.out (fun h => h)); have ax0 := HA.out.cell 0; have ax1 := HA.out.cell 1; have ax2 := HA.out.cell 2; have ax3 := HA.out.cell 3; have ax4 := HA.out.cell 4; have ex0 := HE.out.cell 0; have ex1 := HE.out.cell 1; have ex2 := HE.out.cell 2; have HK := Lib.hid (Kept.trans HK.out hk5 (fun _ _ h => h)); clear hk5)
    | fail)
  all_goals go_ret
  all_goals exact ⟨rfl, HK.out⟩
set_option maxRecDepth 100000 in
set_option maxHeartbeats 2000000 in
theorem spanparted_less (na : ByteArray) (o : Nat) (n : Int) (v r : ByteArray) (l : Int) (y z : ByteArray) (w : World) (hA : ∀ W : World, Calls Tryd.prog 17 #[.agg #[.int .i64 n, .string v, .string r]] W fun e w' => e = .returned (.bool false) ∧ Kept (fun _ => False) W w') (hE : ∀ W : World, Calls Tryd.prog 17 #[.agg #[.int .i64 l, .string y, .string z]] W fun e w' => e = .returned (.bool false) ∧ Kept (fun _ => False) W w') (X0 : ∀ W : World, Calls Tryd.prog 20 #[.agg #[.string na, .int .u8 (1), .int .i64 n, .string v, .string r], .agg #[.int .i64 l, .string y, .string z]] W fun e w' => e = .returned (.bool true) ∧ Kept (fun _ => False) W w') (X1 : ∀ W : World, Calls Tryd.prog 20 #[.agg #[.string na, .int .u8 (2), .int .i64 n, .string v, .string r], .agg #[.int .i64 l, .string y, .string z]] W fun e w' => e = .returned (.bool false) ∧ Kept (fun _ => False) W w') (X2 : ∀ W : World, Calls Tryd.prog 20 #[.agg #[.string na, .int .u8 (4), .int .i64 n, .string v, .string r], .agg #[.int .i64 l, .string y, .string z]] W fun e w' => e = .returned (.bool false) ∧ Kept (fun _ => False) W w') (XL : ∀ W : World, Calls Tryd.prog 20 #[.agg #[.string na, .int .u8 (3), .int .i64 n, .string v, .string r], .agg #[.int .i64 l, .string y, .string z]] W fun e w' => e = .returned (.bool true) ∧ Kept (fun _ => False) W w') (XH : ∀ W : World, Calls Tryd.prog 20 #[.agg #[.string na, .int .u8 (6), .int .i64 n, .string v, .string r], .agg #[.int .i64 l, .string y, .string z]] W fun e w' => e = .returned (.bool false) ∧ Kept (fun _ => False) W w') (CC : ∀ W : World, Calls Tryd.prog 22 #[.agg #[.int .i64 l, .string y, .string z], .agg #[.int .i64 n, .string v, .string r]] W fun e w' => e = .returned (.int .i64 (-1)) ∧ Kept (fun _ => False) W w') : Calls Tryd.prog 9 #[.agg #[.string na, .int .u8 (o : Int), .int .i64 n, .string v, .string r], .agg #[.int .i64 l, .string y, .string z]] w fun e w' => e = .returned (.bool true) ∧ Kept (fun _ => False) w w' := by
  have hW := awake_walk
  have hk0 : Kept (fun _ => False) w ((w.alloc (.cells #[.string na, .int .u8 (o : Int), .int .i64 n, .string v, .string r] 31)).alloc (.cells #[.int .i64 l, .string y, .string z] 29)) := ((Kept.refl _ _).alloc _).alloc _
  have HK := Lib.hid hk0
  have bA := (Box.made w 31 #[.string na, .int .u8 (o : Int), .int .i64 n, .string v, .string r]).after_alloc (.cells #[.int .i64 l, .string y, .string z] 29)
  have bE := Box.made (w.alloc (.cells #[.string na, .int .u8 (o : Int), .int .i64 n, .string v, .string r] 31)) 29 #[.int .i64 l, .string y, .string z]
  rw [World.size_alloc] at bE
  have HA := Lib.hid bA
  have HE := Lib.hid bE
  clear hk0 bA bE
  go_enter Tryd.func9, Tryd.ntmps9
  go_wp2_with (first
    | (go_at_call 17; (first | with_reducible refine (hA _).mono ?_ | with_reducible refine (hE _).mono ?_); rintro e w5 ⟨rfl, hk5⟩; have HA := Lib.hid (hk5.box HA.out (fun h => h)); have HE := Lib.hid (hk5.box HE.out (fun h => h)); have ax0 := HA.out.cell 0; have ax1 := HA.out.cell 1; have ax2 := HA.out.cell 2; have ax3 := HA.out.cell 3; have ax4 := HA.out.cell 4; have ex0 := HE.out.cell 0; have ex1 := HE.out.cell 1; have ex2 := HE.out.cell 2; have HK := Lib.hid (Kept.trans HK.out hk5 (fun _ _ h => h)); clear hk5)
    | (go_at_call 10; (first | with_reducible refine (hW _).mono ?_); rintro e w5 ⟨rfl, hk5⟩; have HA := Lib.hid (hk5.box HA.out (fun h => h)); have HE := Lib.hid (hk5.box HE.out (fun h => h)); have ax0 := HA.out.cell 0; have ax1 := HA.out.cell 1; have ax2 := HA.out.cell 2; have ax3 := HA.out.cell 3; have ax4 := HA.out.cell 4; have ex0 := HE.out.cell 0; have ex1 := HE.out.cell 1; have ex2 := HE.out.cell 2; have HK := Lib.hid (Kept.trans HK.out hk5 (fun _ _ h => h)); clear hk5)
    | fail)
  have zI : w.heap.size + 1 < w5.heap.size := HE.out.lt
  have bK : Kept (fun _ => False) w (w5.alloc (.cells #[.bool false, .bool false, .bool false] 41)) := HK.out.alloc _
  have bA := HA.out.after_alloc (.cells #[.bool false, .bool false, .bool false] 41)
  have bE := HE.out.after_alloc (.cells #[.bool false, .bool false, .bool false] 41)
  have bI := Box.made w5 41 #[.bool false, .bool false, .bool false]
  generalize w5.alloc (.cells #[.bool false, .bool false, .bool false] 41) = W0 at bK bA bE bI ⊢
  generalize w5.heap.size = gI at zI bI ⊢
  clear hA hE hW
  refine wp_loop_rounds 4 ?_
  have HA := Lib.hid bA
  have HE := Lib.hid bE
  have HI := Lib.hid bI
  have HK := Lib.hid bK
  clear bA bE bI bK
  have ax0 := HA.out.cell 0
  have ax1 := HA.out.cell 1
  have ax2 := HA.out.cell 2
  have ax3 := HA.out.cell 3
  have ax4 := HA.out.cell 4
  have ex0 := HE.out.cell 0
  have ex1 := HE.out.cell 1
  have ex2 := HE.out.cell 2
  have la0 : ∀ ob, (W0.alloc ob).cell? ⟨w.heap.size, 0, none⟩ = some (.string na) := fun ob => (HA.out.after_alloc ob).cell 0
  have la1 : ∀ ob, (W0.alloc ob).cell? ⟨w.heap.size, 1, none⟩ = some (.int .u8 (o : Int)) := fun ob => (HA.out.after_alloc ob).cell 1
  have la2 : ∀ ob, (W0.alloc ob).cell? ⟨w.heap.size, 2, none⟩ = some (.int .i64 n) := fun ob => (HA.out.after_alloc ob).cell 2
  have la3 : ∀ ob, (W0.alloc ob).cell? ⟨w.heap.size, 3, none⟩ = some (.string v) := fun ob => (HA.out.after_alloc ob).cell 3
  have la4 : ∀ ob, (W0.alloc ob).cell? ⟨w.heap.size, 4, none⟩ = some (.string r) := fun ob => (HA.out.after_alloc ob).cell 4
  have le0 : ∀ ob, (W0.alloc ob).cell? ⟨w.heap.size + 1, 0, none⟩ = some (.int .i64 l) := fun ob => (HE.out.after_alloc ob).cell 0
  have le1 : ∀ ob, (W0.alloc ob).cell? ⟨w.heap.size + 1, 1, none⟩ = some (.string y) := fun ob => (HE.out.after_alloc ob).cell 1
  have le2 : ∀ ob, (W0.alloc ob).cell? ⟨w.heap.size + 1, 2, none⟩ = some (.string z) := fun ob => (HE.out.after_alloc ob).cell 2
  rw [rounds_succ]
  go_wp2_with (first
    | (go_at_call 20; with_reducible refine (X0 _).mono ?_; rintro e w6 ⟨rfl, hk6⟩; have HA := Lib.hid (hk6.box (HA.out.after_alloc _) (fun h => h)); have HE := Lib.hid (hk6.box (HE.out.after_alloc _) (fun h => h)); have HI := Lib.hid (hk6.box (HI.out.after_alloc _) (fun h => h)); have ix0 := HI.out.cell 0; have if0 := HI.out.free 0; have ix1 := HI.out.cell 1; have if1 := HI.out.free 1; have ix2 := HI.out.cell 2; have if2 := HI.out.free 2; have HK := Lib.hid (Kept.trans (HK.out.alloc _) hk6 (fun _ _ h => h)); clear hk6)
    | fail)
  have bA : Box (w6.setCell ⟨gI, 0, none⟩ (.bool true)) w.heap.size 31 #[.string na, .int .u8 (o : Int), .int .i64 n, .string v, .string r] := box_apart HA.out (show w.heap.size ≠ gI by omega) _
  have bE : Box (w6.setCell ⟨gI, 0, none⟩ (.bool true)) (w.heap.size + 1) 29 #[.int .i64 l, .string y, .string z] := box_apart HE.out (show w.heap.size + 1 ≠ gI by omega) _
  have bI : Box (w6.setCell ⟨gI, 0, none⟩ (.bool true)) gI 41 #[.bool true, .bool false, .bool false] := HI.out.stored 0 _
  have bK : Kept (fun _ => False) w (w6.setCell ⟨gI, 0, none⟩ (.bool true)) := HK.out.setCell (p := ⟨gI, 0, none⟩) (.inr (by show w.heap.size ≤ gI; omega)) _
  generalize (w6.setCell ⟨gI, 0, none⟩ (.bool true)) = W1 at bA bE bI bK ⊢
  have HA := Lib.hid bA
  have HE := Lib.hid bE
  have HI := Lib.hid bI
  have HK := Lib.hid bK
  clear bA bE bI bK
  have ax0 := HA.out.cell 0
  have ax1 := HA.out.cell 1
  have ax2 := HA.out.cell 2
  have ax3 := HA.out.cell 3
  have ax4 := HA.out.cell 4
  have ex0 := HE.out.cell 0
  have ex1 := HE.out.cell 1
  have ex2 := HE.out.cell 2
  have la0 : ∀ ob, (W1.alloc ob).cell? ⟨w.heap.size, 0, none⟩ = some (.string na) := fun ob => (HA.out.after_alloc ob).cell 0
  have la1 : ∀ ob, (W1.alloc ob).cell? ⟨w.heap.size, 1, none⟩ = some (.int .u8 (o : Int)) := fun ob => (HA.out.after_alloc ob).cell 1
  have la2 : ∀ ob, (W1.alloc ob).cell? ⟨w.heap.size, 2, none⟩ = some (.int .i64 n) := fun ob => (HA.out.after_alloc ob).cell 2
  have la3 : ∀ ob, (W1.alloc ob).cell? ⟨w.heap.size, 3, none⟩ = some (.string v) := fun ob => (HA.out.after_alloc ob).cell 3
  have la4 : ∀ ob, (W1.alloc ob).cell? ⟨w.heap.size, 4, none⟩ = some (.string r) := fun ob => (HA.out.after_alloc ob).cell 4
  have le0 : ∀ ob, (W1.alloc ob).cell? ⟨w.heap.size + 1, 0, none⟩ = some (.int .i64 l) := fun ob => (HE.out.after_alloc ob).cell 0
  have le1 : ∀ ob, (W1.alloc ob).cell? ⟨w.heap.size + 1, 1, none⟩ = some (.string y) := fun ob => (HE.out.after_alloc ob).cell 1
  have le2 : ∀ ob, (W1.alloc ob).cell? ⟨w.heap.size + 1, 2, none⟩ = some (.string z) := fun ob => (HE.out.after_alloc ob).cell 2
  rw [rounds_succ]
  go_wp2_with (first
    | (go_at_call 20; with_reducible refine (X1 _).mono ?_; rintro e w6 ⟨rfl, hk6⟩; have HA := Lib.hid (hk6.box (HA.out.after_alloc _) (fun h => h)); have HE := Lib.hid (hk6.box (HE.out.after_alloc _) (fun h => h)); have HI := Lib.hid (hk6.box (HI.out.after_alloc _) (fun h => h)); have ix0 := HI.out.cell 0; have if0 := HI.out.free 0; have ix1 := HI.out.cell 1; have if1 := HI.out.free 1; have ix2 := HI.out.cell 2; have if2 := HI.out.free 2; have HK := Lib.hid (Kept.trans (HK.out.alloc _) hk6 (fun _ _ h => h)); clear hk6)
    | fail)
  have bA : Box (w6.setCell ⟨gI, 1, none⟩ (.bool false)) w.heap.size 31 #[.string na, .int .u8 (o : Int), .int .i64 n, .string v, .string r] := box_apart HA.out (show w.heap.size ≠ gI by omega) _
  have bE : Box (w6.setCell ⟨gI, 1, none⟩ (.bool false)) (w.heap.size + 1) 29 #[.int .i64 l, .string y, .string z] := box_apart HE.out (show w.heap.size + 1 ≠ gI by omega) _
  have bI : Box (w6.setCell ⟨gI, 1, none⟩ (.bool false)) gI 41 #[.bool true, .bool false, .bool false] := HI.out.stored 1 _
  have bK : Kept (fun _ => False) w (w6.setCell ⟨gI, 1, none⟩ (.bool false)) := HK.out.setCell (p := ⟨gI, 1, none⟩) (.inr (by show w.heap.size ≤ gI; omega)) _
  generalize (w6.setCell ⟨gI, 1, none⟩ (.bool false)) = W2 at bA bE bI bK ⊢
  have HA := Lib.hid bA
  have HE := Lib.hid bE
  have HI := Lib.hid bI
  have HK := Lib.hid bK
  clear bA bE bI bK
  have ax0 := HA.out.cell 0
  have ax1 := HA.out.cell 1
  have ax2 := HA.out.cell 2
  have ax3 := HA.out.cell 3
  have ax4 := HA.out.cell 4
  have ex0 := HE.out.cell 0
  have ex1 := HE.out.cell 1
  have ex2 := HE.out.cell 2
  have la0 : ∀ ob, (W2.alloc ob).cell? ⟨w.heap.size, 0, none⟩ = some (.string na) := fun ob => (HA.out.after_alloc ob).cell 0
  have la1 : ∀ ob, (W2.alloc ob).cell? ⟨w.heap.size, 1, none⟩ = some (.int .u8 (o : Int)) := fun ob => (HA.out.after_alloc ob).cell 1
  have la2 : ∀ ob, (W2.alloc ob).cell? ⟨w.heap.size, 2, none⟩ = some (.int .i64 n) := fun ob => (HA.out.after_alloc ob).cell 2
  have la3 : ∀ ob, (W2.alloc ob).cell? ⟨w.heap.size, 3, none⟩ = some (.string v) := fun ob => (HA.out.after_alloc ob).cell 3
  have la4 : ∀ ob, (W2.alloc ob).cell? ⟨w.heap.size, 4, none⟩ = some (.string r) := fun ob => (HA.out.after_alloc ob).cell 4
  have le0 : ∀ ob, (W2.alloc ob).cell? ⟨w.heap.size + 1, 0, none⟩ = some (.int .i64 l) := fun ob => (HE.out.after_alloc ob).cell 0
  have le1 : ∀ ob, (W2.alloc ob).cell? ⟨w.heap.size + 1, 1, none⟩ = some (.string y) := fun ob => (HE.out.after_alloc ob).cell 1
  have le2 : ∀ ob, (W2.alloc ob).cell? ⟨w.heap.size + 1, 2, none⟩ = some (.string z) := fun ob => (HE.out.after_alloc ob).cell 2
  rw [rounds_succ]
  go_wp2_with (first
    | (go_at_call 20; with_reducible refine (X2 _).mono ?_; rintro e w6 ⟨rfl, hk6⟩; have HA := Lib.hid (hk6.box (HA.out.after_alloc _) (fun h => h)); have HE := Lib.hid (hk6.box (HE.out.after_alloc _) (fun h => h)); have HI := Lib.hid (hk6.box (HI.out.after_alloc _) (fun h => h)); have ix0 := HI.out.cell 0; have if0 := HI.out.free 0; have ix1 := HI.out.cell 1; have if1 := HI.out.free 1; have ix2 := HI.out.cell 2; have if2 := HI.out.free 2; have HK := Lib.hid (Kept.trans (HK.out.alloc _) hk6 (fun _ _ h => h)); clear hk6)
    | fail)
  have bA : Box (w6.setCell ⟨gI, 2, none⟩ (.bool false)) w.heap.size 31 #[.string na, .int .u8 (o : Int), .int .i64 n, .string v, .string r] := box_apart HA.out (show w.heap.size ≠ gI by omega) _
  have bE : Box (w6.setCell ⟨gI, 2, none⟩ (.bool false)) (w.heap.size + 1) 29 #[.int .i64 l, .string y, .string z] := box_apart HE.out (show w.heap.size + 1 ≠ gI by omega) _
  have bI : Box (w6.setCell ⟨gI, 2, none⟩ (.bool false)) gI 41 #[.bool true, .bool false, .bool false] := HI.out.stored 2 _
  have bK : Kept (fun _ => False) w (w6.setCell ⟨gI, 2, none⟩ (.bool false)) := HK.out.setCell (p := ⟨gI, 2, none⟩) (.inr (by show w.heap.size ≤ gI; omega)) _
  generalize (w6.setCell ⟨gI, 2, none⟩ (.bool false)) = W3 at bA bE bI bK ⊢
  have HA := Lib.hid bA
  have HE := Lib.hid bE
  have HI := Lib.hid bI
  have HK := Lib.hid bK
  clear bA bE bI bK
  have ax0 := HA.out.cell 0
  have ax1 := HA.out.cell 1
  have ax2 := HA.out.cell 2
  have ax3 := HA.out.cell 3
  have ax4 := HA.out.cell 4
  have ex0 := HE.out.cell 0
  have ex1 := HE.out.cell 1
  have ex2 := HE.out.cell 2
  have szA := HA.out.lt
  have szE := HE.out.lt
  have szI := HI.out.lt
  have neA := Nat.ne_of_lt szA
  have neA' : ¬ w.heap.size = W3.heap.size + 1 := by omega
  rw [rounds_succ]
  go_wp2_with fail
  go_region
  · have bP : Box ((W3.alloc (.cells #[.string na, .int .u8 (o : Int), .int .i64 n, .string v, .string r] 31)).alloc (.cells #[.string na, .int .u8 (o : Int), .int .i64 n, .string v, .string r] 31)).drew W3.heap.size 31 #[.string na, .int .u8 (o : Int), .int .i64 n, .string v, .string r] := (Box.made W3 _ _).after_alloc _
    have bQ : Box ((W3.alloc (.cells #[.string na, .int .u8 (o : Int), .int .i64 n, .string v, .string r] 31)).alloc (.cells #[.string na, .int .u8 (o : Int), .int .i64 n, .string v, .string r] 31)).drew (W3.heap.size + 1) 31 #[.string na, .int .u8 (o : Int), .int .i64 n, .string v, .string r] := by
      have h := Box.made (W3.alloc (.cells #[.string na, .int .u8 (o : Int), .int .i64 n, .string v, .string r] 31)) 31 #[.string na, .int .u8 (o : Int), .int .i64 n, .string v, .string r]
      rw [World.size_alloc] at h
      exact h
    have bA : Box ((W3.alloc (.cells #[.string na, .int .u8 (o : Int), .int .i64 n, .string v, .string r] 31)).alloc (.cells #[.string na, .int .u8 (o : Int), .int .i64 n, .string v, .string r] 31)).drew w.heap.size 31 #[.string na, .int .u8 (o : Int), .int .i64 n, .string v, .string r] := (HA.out.after_alloc _).after_alloc _
    have bE : Box ((W3.alloc (.cells #[.string na, .int .u8 (o : Int), .int .i64 n, .string v, .string r] 31)).alloc (.cells #[.string na, .int .u8 (o : Int), .int .i64 n, .string v, .string r] 31)).drew (w.heap.size + 1) 29 #[.int .i64 l, .string y, .string z] := (HE.out.after_alloc _).after_alloc _
    have bI : Box ((W3.alloc (.cells #[.string na, .int .u8 (o : Int), .int .i64 n, .string v, .string r] 31)).alloc (.cells #[.string na, .int .u8 (o : Int), .int .i64 n, .string v, .string r] 31)).drew gI 41 #[.bool true, .bool false, .bool false] := (HI.out.after_alloc _).after_alloc _
    have bK : Kept (fun _ => False) w ((W3.alloc (.cells #[.string na, .int .u8 (o : Int), .int .i64 n, .string v, .string r] 31)).alloc (.cells #[.string na, .int .u8 (o : Int), .int .i64 n, .string v, .string r] 31)).drew := ((HK.out.alloc _).alloc _).drew
    generalize ((W3.alloc (.cells #[.string na, .int .u8 (o : Int), .int .i64 n, .string v, .string r] 31)).alloc (.cells #[.string na, .int .u8 (o : Int), .int .i64 n, .string v, .string r] 31)).drew = W4 at bA bE bI bP bQ bK ⊢
    have zP : gI < W3.heap.size := by omega
    have zQ : gI < W3.heap.size + 1 := by omega
    have hPQ : W3.heap.size ≠ W3.heap.size + 1 := by omega
    clear szA szE szI neA neA'
    generalize W3.heap.size + 1 = Q at bQ zQ hPQ ⊢
    generalize W3.heap.size = P at bP zP hPQ ⊢
    have px1 : W4.cell? ⟨P, 1, none⟩ = some (.int .u8 (o : Int)) := bP.cell 1
    have qx1 : W4.cell? ⟨Q, 1, none⟩ = some (.int .u8 (o : Int)) := bQ.cell 1
    have pf := bP.free 1
    have qf := bQ.free 1
    have hQP := Ne.symm hPQ
    have HA := Lib.hid bA
    have HE := Lib.hid bE
    have HI := Lib.hid bI
    have HP := Lib.hid bP
    have HQ := Lib.hid bQ
    have HK := Lib.hid bK
    clear bA bE bI bP bQ bK
    go_wp2_with fail
    have bA : Box ((W4.setCell ⟨P, 1, none⟩ (.int .u8 3)).setCell ⟨Q, 1, none⟩ (.int .u8 6)) w.heap.size 31 #[.string na, .int .u8 (o : Int), .int .i64 n, .string v, .string r] := box_apart (box_apart HA.out (show w.heap.size ≠ P by omega) _) (show w.heap.size ≠ Q by omega) _
    have bE : Box ((W4.setCell ⟨P, 1, none⟩ (.int .u8 3)).setCell ⟨Q, 1, none⟩ (.int .u8 6)) (w.heap.size + 1) 29 #[.int .i64 l, .string y, .string z] := box_apart (box_apart HE.out (show (w.heap.size + 1) ≠ P by omega) _) (show (w.heap.size + 1) ≠ Q by omega) _
    have bI : Box ((W4.setCell ⟨P, 1, none⟩ (.int .u8 3)).setCell ⟨Q, 1, none⟩ (.int .u8 6)) gI 41 #[.bool true, .bool false, .bool false] := box_apart (box_apart HI.out (show gI ≠ P by omega) _) (show gI ≠ Q by omega) _
    have bP : Box ((W4.setCell ⟨P, 1, none⟩ (.int .u8 3)).setCell ⟨Q, 1, none⟩ (.int .u8 6)) P 31 #[.string na, .int .u8 (3), .int .i64 n, .string v, .string r] := box_apart (HP.out.stored 1 _) hPQ _
    have bQ : Box ((W4.setCell ⟨P, 1, none⟩ (.int .u8 3)).setCell ⟨Q, 1, none⟩ (.int .u8 6)) Q 31 #[.string na, .int .u8 (6), .int .i64 n, .string v, .string r] := (box_apart HQ.out hQP _).stored 1 _
    have bK : Kept (fun _ => False) w ((W4.setCell ⟨P, 1, none⟩ (.int .u8 3)).setCell ⟨Q, 1, none⟩ (.int .u8 6)) := (HK.out.setCell (p := ⟨P, 1, none⟩) (.inr (by show w.heap.size ≤ P; omega)) _).setCell (p := ⟨Q, 1, none⟩) (.inr (by show w.heap.size ≤ Q; omega)) _
    generalize ((W4.setCell ⟨P, 1, none⟩ (.int .u8 3)).setCell ⟨Q, 1, none⟩ (.int .u8 6)) = W5 at bA bE bI bP bQ bK ⊢
    have HA := Lib.hid bA
    have HE := Lib.hid bE
    have HI := Lib.hid bI
    have HP := Lib.hid bP
    have HQ := Lib.hid bQ
    have HK := Lib.hid bK
    clear bA bE bI bP bQ bK px1 qx1 pf qf
    obtain ⟨T, F, t0, ht0, hFk, hFs⟩ := class_of W5
    have qa0 : ∀ t, (F t).cell? ⟨w.heap.size, 0, none⟩ = some (.string na) := fun t => ((hFk t).box HA.out (fun h => h)).cell 0
    have qa1 : ∀ t, (F t).cell? ⟨w.heap.size, 1, none⟩ = some (.int .u8 (o : Int)) := fun t => ((hFk t).box HA.out (fun h => h)).cell 1
    have qa2 : ∀ t, (F t).cell? ⟨w.heap.size, 2, none⟩ = some (.int .i64 n) := fun t => ((hFk t).box HA.out (fun h => h)).cell 2
    have qa3 : ∀ t, (F t).cell? ⟨w.heap.size, 3, none⟩ = some (.string v) := fun t => ((hFk t).box HA.out (fun h => h)).cell 3
    have qa4 : ∀ t, (F t).cell? ⟨w.heap.size, 4, none⟩ = some (.string r) := fun t => ((hFk t).box HA.out (fun h => h)).cell 4
    have qe0 : ∀ t, (F t).cell? ⟨w.heap.size + 1, 0, none⟩ = some (.int .i64 l) := fun t => ((hFk t).box HE.out (fun h => h)).cell 0
    have qe1 : ∀ t, (F t).cell? ⟨w.heap.size + 1, 1, none⟩ = some (.string y) := fun t => ((hFk t).box HE.out (fun h => h)).cell 1
    have qe2 : ∀ t, (F t).cell? ⟨w.heap.size + 1, 2, none⟩ = some (.string z) := fun t => ((hFk t).box HE.out (fun h => h)).cell 2
    have qi0 : ∀ t, (F t).cell? ⟨gI, 0, none⟩ = some (.bool true) := fun t => ((hFk t).box HI.out (fun h => h)).cell 0
    have qi1 : ∀ t, (F t).cell? ⟨gI, 1, none⟩ = some (.bool false) := fun t => ((hFk t).box HI.out (fun h => h)).cell 1
    have qi2 : ∀ t, (F t).cell? ⟨gI, 2, none⟩ = some (.bool false) := fun t => ((hFk t).box HI.out (fun h => h)).cell 2
    have qp0 : ∀ t, (F t).cell? ⟨P, 0, none⟩ = some (.string na) := fun t => ((hFk t).box HP.out (fun h => h)).cell 0
    have qp1 : ∀ t, (F t).cell? ⟨P, 1, none⟩ = some (.int .u8 (3)) := fun t => ((hFk t).box HP.out (fun h => h)).cell 1
    have qp2 : ∀ t, (F t).cell? ⟨P, 2, none⟩ = some (.int .i64 n) := fun t => ((hFk t).box HP.out (fun h => h)).cell 2
    have qp3 : ∀ t, (F t).cell? ⟨P, 3, none⟩ = some (.string v) := fun t => ((hFk t).box HP.out (fun h => h)).cell 3
    have qp4 : ∀ t, (F t).cell? ⟨P, 4, none⟩ = some (.string r) := fun t => ((hFk t).box HP.out (fun h => h)).cell 4
    have qq0 : ∀ t, (F t).cell? ⟨Q, 0, none⟩ = some (.string na) := fun t => ((hFk t).box HQ.out (fun h => h)).cell 0
    have qq1 : ∀ t, (F t).cell? ⟨Q, 1, none⟩ = some (.int .u8 (6)) := fun t => ((hFk t).box HQ.out (fun h => h)).cell 1
    have qq2 : ∀ t, (F t).cell? ⟨Q, 2, none⟩ = some (.int .i64 n) := fun t => ((hFk t).box HQ.out (fun h => h)).cell 2
    have qq3 : ∀ t, (F t).cell? ⟨Q, 3, none⟩ = some (.string v) := fun t => ((hFk t).box HQ.out (fun h => h)).cell 3
    have qq4 : ∀ t, (F t).cell? ⟨Q, 4, none⟩ = some (.string r) := fun t => ((hFk t).box HQ.out (fun h => h)).cell 4
    have HFK := Lib.hid hFk
    have HFS := Lib.hid hFs
    clear hFk hFs
    have hne : Nonempty T := ⟨t0⟩
    refine wp_region_class F t0 ht0 (by kernel_rfl) (by kernel_rfl) ?_
    repeat (go_big_quiet_step (first
      | (go_at_call 20; (first | with_reducible exact class_call HFS.out (XL _) | with_reducible exact class_call HFS.out (XH _)))
      | (go_at_call 22; (first | with_reducible exact class_call HFS.out (CC _)))))
    refine wpQuiet_nil ?_
    rintro _ ⟨tz, rfl⟩
    have hkz := HK.out.trans (HFK.out tz) (fun _ _ h => h)
    go_wp2_with fail
    go_ret
    exact ⟨rfl, hkz⟩
  · have bQ : Box ((W3.alloc (.cells #[.string na, .int .u8 (o : Int), .int .i64 n, .string v, .string r] 31)).alloc (.cells #[.string na, .int .u8 (o : Int), .int .i64 n, .string v, .string r] 31)).drew W3.heap.size 31 #[.string na, .int .u8 (o : Int), .int .i64 n, .string v, .string r] := (Box.made W3 _ _).after_alloc _
    have bP : Box ((W3.alloc (.cells #[.string na, .int .u8 (o : Int), .int .i64 n, .string v, .string r] 31)).alloc (.cells #[.string na, .int .u8 (o : Int), .int .i64 n, .string v, .string r] 31)).drew (W3.heap.size + 1) 31 #[.string na, .int .u8 (o : Int), .int .i64 n, .string v, .string r] := by
      have h := Box.made (W3.alloc (.cells #[.string na, .int .u8 (o : Int), .int .i64 n, .string v, .string r] 31)) 31 #[.string na, .int .u8 (o : Int), .int .i64 n, .string v, .string r]
      rw [World.size_alloc] at h
      exact h
    have bA : Box ((W3.alloc (.cells #[.string na, .int .u8 (o : Int), .int .i64 n, .string v, .string r] 31)).alloc (.cells #[.string na, .int .u8 (o : Int), .int .i64 n, .string v, .string r] 31)).drew w.heap.size 31 #[.string na, .int .u8 (o : Int), .int .i64 n, .string v, .string r] := (HA.out.after_alloc _).after_alloc _
    have bE : Box ((W3.alloc (.cells #[.string na, .int .u8 (o : Int), .int .i64 n, .string v, .string r] 31)).alloc (.cells #[.string na, .int .u8 (o : Int), .int .i64 n, .string v, .string r] 31)).drew (w.heap.size + 1) 29 #[.int .i64 l, .string y, .string z] := (HE.out.after_alloc _).after_alloc _
    have bI : Box ((W3.alloc (.cells #[.string na, .int .u8 (o : Int), .int .i64 n, .string v, .string r] 31)).alloc (.cells #[.string na, .int .u8 (o : Int), .int .i64 n, .string v, .string r] 31)).drew gI 41 #[.bool true, .bool false, .bool false] := (HI.out.after_alloc _).after_alloc _
    have bK : Kept (fun _ => False) w ((W3.alloc (.cells #[.string na, .int .u8 (o : Int), .int .i64 n, .string v, .string r] 31)).alloc (.cells #[.string na, .int .u8 (o : Int), .int .i64 n, .string v, .string r] 31)).drew := ((HK.out.alloc _).alloc _).drew
    generalize ((W3.alloc (.cells #[.string na, .int .u8 (o : Int), .int .i64 n, .string v, .string r] 31)).alloc (.cells #[.string na, .int .u8 (o : Int), .int .i64 n, .string v, .string r] 31)).drew = W4 at bA bE bI bP bQ bK ⊢
    have zP : gI < W3.heap.size + 1 := by omega
    have zQ : gI < W3.heap.size := by omega
    have hPQ : W3.heap.size + 1 ≠ W3.heap.size := by omega
    clear szA szE szI neA neA'
    generalize W3.heap.size + 1 = P at bP zP hPQ ⊢
    generalize W3.heap.size = Q at bQ zQ hPQ ⊢
    have px1 : W4.cell? ⟨P, 1, none⟩ = some (.int .u8 (o : Int)) := bP.cell 1
    have qx1 : W4.cell? ⟨Q, 1, none⟩ = some (.int .u8 (o : Int)) := bQ.cell 1
    have pf := bP.free 1
    have qf := bQ.free 1
    have hQP := Ne.symm hPQ
    have HA := Lib.hid bA
    have HE := Lib.hid bE
    have HI := Lib.hid bI
    have HP := Lib.hid bP
    have HQ := Lib.hid bQ
    have HK := Lib.hid bK
    clear bA bE bI bP bQ bK
    go_wp2_with fail
    have bA : Box ((W4.setCell ⟨P, 1, none⟩ (.int .u8 3)).setCell ⟨Q, 1, none⟩ (.int .u8 6)) w.heap.size 31 #[.string na, .int .u8 (o : Int), .int .i64 n, .string v, .string r] := box_apart (box_apart HA.out (show w.heap.size ≠ P by omega) _) (show w.heap.size ≠ Q by omega) _
    have bE : Box ((W4.setCell ⟨P, 1, none⟩ (.int .u8 3)).setCell ⟨Q, 1, none⟩ (.int .u8 6)) (w.heap.size + 1) 29 #[.int .i64 l, .string y, .string z] := box_apart (box_apart HE.out (show (w.heap.size + 1) ≠ P by omega) _) (show (w.heap.size + 1) ≠ Q by omega) _
    have bI : Box ((W4.setCell ⟨P, 1, none⟩ (.int .u8 3)).setCell ⟨Q, 1, none⟩ (.int .u8 6)) gI 41 #[.bool true, .bool false, .bool false] := box_apart (box_apart HI.out (show gI ≠ P by omega) _) (show gI ≠ Q by omega) _
    have bP : Box ((W4.setCell ⟨P, 1, none⟩ (.int .u8 3)).setCell ⟨Q, 1, none⟩ (.int .u8 6)) P 31 #[.string na, .int .u8 (3), .int .i64 n, .string v, .string r] := box_apart (HP.out.stored 1 _) hPQ _
    have bQ : Box ((W4.setCell ⟨P, 1, none⟩ (.int .u8 3)).setCell ⟨Q, 1, none⟩ (.int .u8 6)) Q 31 #[.string na, .int .u8 (6), .int .i64 n, .string v, .string r] := (box_apart HQ.out hQP _).stored 1 _
    have bK : Kept (fun _ => False) w ((W4.setCell ⟨P, 1, none⟩ (.int .u8 3)).setCell ⟨Q, 1, none⟩ (.int .u8 6)) := (HK.out.setCell (p := ⟨P, 1, none⟩) (.inr (by show w.heap.size ≤ P; omega)) _).setCell (p := ⟨Q, 1, none⟩) (.inr (by show w.heap.size ≤ Q; omega)) _
    generalize ((W4.setCell ⟨P, 1, none⟩ (.int .u8 3)).setCell ⟨Q, 1, none⟩ (.int .u8 6)) = W5 at bA bE bI bP bQ bK ⊢
    have HA := Lib.hid bA
    have HE := Lib.hid bE
    have HI := Lib.hid bI
    have HP := Lib.hid bP
    have HQ := Lib.hid bQ
    have HK := Lib.hid bK
    clear bA bE bI bP bQ bK px1 qx1 pf qf
    obtain ⟨T, F, t0, ht0, hFk, hFs⟩ := class_of W5
    have qa0 : ∀ t, (F t).cell? ⟨w.heap.size, 0, none⟩ = some (.string na) := fun t => ((hFk t).box HA.out (fun h => h)).cell 0
    have qa1 : ∀ t, (F t).cell? ⟨w.heap.size, 1, none⟩ = some (.int .u8 (o : Int)) := fun t => ((hFk t).box HA.out (fun h => h)).cell 1
    have qa2 : ∀ t, (F t).cell? ⟨w.heap.size, 2, none⟩ = some (.int .i64 n) := fun t => ((hFk t).box HA.out (fun h => h)).cell 2
    have qa3 : ∀ t, (F t).cell? ⟨w.heap.size, 3, none⟩ = some (.string v) := fun t => ((hFk t).box HA.out (fun h => h)).cell 3
    have qa4 : ∀ t, (F t).cell? ⟨w.heap.size, 4, none⟩ = some (.string r) := fun t => ((hFk t).box HA.out (fun h => h)).cell 4
    have qe0 : ∀ t, (F t).cell? ⟨w.heap.size + 1, 0, none⟩ = some (.int .i64 l) := fun t => ((hFk t).box HE.out (fun h => h)).cell 0
    have qe1 : ∀ t, (F t).cell? ⟨w.heap.size + 1, 1, none⟩ = some (.string y) := fun t => ((hFk t).box HE.out (fun h => h)).cell 1
    have qe2 : ∀ t, (F t).cell? ⟨w.heap.size + 1, 2, none⟩ = some (.string z) := fun t => ((hFk t).box HE.out (fun h => h)).cell 2
    have qi0 : ∀ t, (F t).cell? ⟨gI, 0, none⟩ = some (.bool true) := fun t => ((hFk t).box HI.out (fun h => h)).cell 0
    have qi1 : ∀ t, (F t).cell? ⟨gI, 1, none⟩ = some (.bool false) := fun t => ((hFk t).box HI.out (fun h => h)).cell 1
    have qi2 : ∀ t, (F t).cell? ⟨gI, 2, none⟩ = some (.bool false) := fun t => ((hFk t).box HI.out (fun h => h)).cell 2
    have qp0 : ∀ t, (F t).cell? ⟨P, 0, none⟩ = some (.string na) := fun t => ((hFk t).box HP.out (fun h => h)).cell 0
    have qp1 : ∀ t, (F t).cell? ⟨P, 1, none⟩ = some (.int .u8 (3)) := fun t => ((hFk t).box HP.out (fun h => h)).cell 1
    have qp2 : ∀ t, (F t).cell? ⟨P, 2, none⟩ = some (.int .i64 n) := fun t => ((hFk t).box HP.out (fun h => h)).cell 2
    have qp3 : ∀ t, (F t).cell? ⟨P, 3, none⟩ = some (.string v) := fun t => ((hFk t).box HP.out (fun h => h)).cell 3
    have qp4 : ∀ t, (F t).cell? ⟨P, 4, none⟩ = some (.string r) := fun t => ((hFk t).box HP.out (fun h => h)).cell 4
    have qq0 : ∀ t, (F t).cell? ⟨Q, 0, none⟩ = some (.string na) := fun t => ((hFk t).box HQ.out (fun h => h)).cell 0
    have qq1 : ∀ t, (F t).cell? ⟨Q, 1, none⟩ = some (.int .u8 (6)) := fun t => ((hFk t).box HQ.out (fun h => h)).cell 1
    have qq2 : ∀ t, (F t).cell? ⟨Q, 2, none⟩ = some (.int .i64 n) := fun t => ((hFk t).box HQ.out (fun h => h)).cell 2
    have qq3 : ∀ t, (F t).cell? ⟨Q, 3, none⟩ = some (.string v) := fun t => ((hFk t).box HQ.out (fun h => h)).cell 3
    have qq4 : ∀ t, (F t).cell? ⟨Q, 4, none⟩ = some (.string r) := fun t => ((hFk t).box HQ.out (fun h => h)).cell 4
    have HFK := Lib.hid hFk
    have HFS := Lib.hid hFs
    clear hFk hFs
    have hne : Nonempty T := ⟨t0⟩
    refine wp_region_class F t0 ht0 (by kernel_rfl) (by kernel_rfl) ?_
    repeat (go_big_quiet_step (first
      | (go_at_call 20; (first | with_reducible exact class_call HFS.out (XL _) | with_reducible exact class_call HFS.out (XH _)))
      | (go_at_call 22; (first | with_reducible exact class_call HFS.out (CC _)))))
    refine wpQuiet_nil ?_
    rintro _ ⟨tz, rfl⟩
    have hkz := HK.out.trans (HFK.out tz) (fun _ _ h => h)
    go_wp2_with fail
    go_ret
    exact ⟨rfl, hkz⟩
set_option maxRecDepth 100000 in
set_option maxHeartbeats 2000000 in
theorem spanparted_same (na : ByteArray) (o : Nat) (n : Int) (v r : ByteArray) (l : Int) (y z : ByteArray) (w : World) (hA : ∀ W : World, Calls Tryd.prog 17 #[.agg #[.int .i64 n, .string v, .string r]] W fun e w' => e = .returned (.bool false) ∧ Kept (fun _ => False) W w') (hE : ∀ W : World, Calls Tryd.prog 17 #[.agg #[.int .i64 l, .string y, .string z]] W fun e w' => e = .returned (.bool false) ∧ Kept (fun _ => False) W w') (X0 : ∀ W : World, Calls Tryd.prog 20 #[.agg #[.string na, .int .u8 (1), .int .i64 n, .string v, .string r], .agg #[.int .i64 l, .string y, .string z]] W fun e w' => e = .returned (.bool false) ∧ Kept (fun _ => False) W w') (X1 : ∀ W : World, Calls Tryd.prog 20 #[.agg #[.string na, .int .u8 (2), .int .i64 n, .string v, .string r], .agg #[.int .i64 l, .string y, .string z]] W fun e w' => e = .returned (.bool true) ∧ Kept (fun _ => False) W w') (X2 : ∀ W : World, Calls Tryd.prog 20 #[.agg #[.string na, .int .u8 (4), .int .i64 n, .string v, .string r], .agg #[.int .i64 l, .string y, .string z]] W fun e w' => e = .returned (.bool false) ∧ Kept (fun _ => False) W w') (XL : ∀ W : World, Calls Tryd.prog 20 #[.agg #[.string na, .int .u8 (3), .int .i64 n, .string v, .string r], .agg #[.int .i64 l, .string y, .string z]] W fun e w' => e = .returned (.bool true) ∧ Kept (fun _ => False) W w') (XH : ∀ W : World, Calls Tryd.prog 20 #[.agg #[.string na, .int .u8 (6), .int .i64 n, .string v, .string r], .agg #[.int .i64 l, .string y, .string z]] W fun e w' => e = .returned (.bool true) ∧ Kept (fun _ => False) W w') (CC : ∀ W : World, Calls Tryd.prog 22 #[.agg #[.int .i64 l, .string y, .string z], .agg #[.int .i64 n, .string v, .string r]] W fun e w' => e = .returned (.int .i64 (0)) ∧ Kept (fun _ => False) W w') : Calls Tryd.prog 9 #[.agg #[.string na, .int .u8 (o : Int), .int .i64 n, .string v, .string r], .agg #[.int .i64 l, .string y, .string z]] w fun e w' => e = .returned (.bool true) ∧ Kept (fun _ => False) w w' := by
  have hW := awake_walk
  have hk0 : Kept (fun _ => False) w ((w.alloc (.cells #[.string na, .int .u8 (o : Int), .int .i64 n, .string v, .string r] 31)).alloc (.cells #[.int .i64 l, .string y, .string z] 29)) := ((Kept.refl _ _).alloc _).alloc _
  have HK := Lib.hid hk0
  have bA := (Box.made w 31 #[.string na, .int .u8 (o : Int), .int .i64 n, .string v, .string r]).after_alloc (.cells #[.int .i64 l, .string y, .string z] 29)
  have bE := Box.made (w.alloc (.cells #[.string na, .int .u8 (o : Int), .int .i64 n, .string v, .string r] 31)) 29 #[.int .i64 l, .string y, .string z]
  rw [World.size_alloc] at bE
  have HA := Lib.hid bA
  have HE := Lib.hid bE
  clear hk0 bA bE
  go_enter Tryd.func9, Tryd.ntmps9
  go_wp2_with (first
    | (go_at_call 17; (first | with_reducible refine (hA _).mono ?_ | with_reducible refine (hE _).mono ?_); rintro e w5 ⟨rfl, hk5⟩; have HA := Lib.hid (hk5.box HA.out (fun h => h)); have HE := Lib.hid (hk5.box HE.out (fun h => h)); have ax0 := HA.out.cell 0; have ax1 := HA.out.cell 1; have ax2 := HA.out.cell 2; have ax3 := HA.out.cell 3; have ax4 := HA.out.cell 4; have ex0 := HE.out.cell 0; have ex1 := HE.out.cell 1; have ex2 := HE.out.cell 2; have HK := Lib.hid (Kept.trans HK.out hk5 (fun _ _ h => h)); clear hk5)
    | (go_at_call 10; (first | with_reducible refine (hW _).mono ?_); rintro e w5 ⟨rfl, hk5⟩; have HA := Lib.hid (hk5.box HA.out (fun h => h)); have HE := Lib.hid (hk5.box HE.out (fun h => h)); have ax0 := HA.out.cell 0; have ax1 := HA.out.cell 1; have ax2 := HA.out.cell 2; have ax3 := HA.out.cell 3; have ax4 := HA.out.cell 4; have ex0 := HE.out.cell 0; have ex1 := HE.out.cell 1; have ex2 := HE.out.cell 2; have HK := Lib.hid (Kept.trans HK.out hk5 (fun _ _ h => h)); clear hk5)
    | fail)
  have zI : w.heap.size + 1 < w5.heap.size := HE.out.lt
  have bK : Kept (fun _ => False) w (w5.alloc (.cells #[.bool false, .bool false, .bool false] 41)) := HK.out.alloc _
  have bA := HA.out.after_alloc (.cells #[.bool false, .bool false, .bool false] 41)
  have bE := HE.out.after_alloc (.cells #[.bool false, .bool false, .bool false] 41)
  have bI := Box.made w5 41 #[.bool false, .bool false, .bool false]
  generalize w5.alloc (.cells #[.bool false, .bool false, .bool false] 41) = W0 at bK bA bE bI ⊢
  generalize w5.heap.size = gI at zI bI ⊢
  clear hA hE hW
  refine wp_loop_rounds 4 ?_
  have HA := Lib.hid bA
  have HE := Lib.hid bE
  have HI := Lib.hid bI
  have HK := Lib.hid bK
  clear bA bE bI bK
  have ax0 := HA.out.cell 0
  have ax1 := HA.out.cell 1
  have ax2 := HA.out.cell 2
  have ax3 := HA.out.cell 3
  have ax4 := HA.out.cell 4
  have ex0 := HE.out.cell 0
  have ex1 := HE.out.cell 1
  have ex2 := HE.out.cell 2
  have la0 : ∀ ob, (W0.alloc ob).cell? ⟨w.heap.size, 0, none⟩ = some (.string na) := fun ob => (HA.out.after_alloc ob).cell 0
  have la1 : ∀ ob, (W0.alloc ob).cell? ⟨w.heap.size, 1, none⟩ = some (.int .u8 (o : Int)) := fun ob => (HA.out.after_alloc ob).cell 1
  have la2 : ∀ ob, (W0.alloc ob).cell? ⟨w.heap.size, 2, none⟩ = some (.int .i64 n) := fun ob => (HA.out.after_alloc ob).cell 2
  have la3 : ∀ ob, (W0.alloc ob).cell? ⟨w.heap.size, 3, none⟩ = some (.string v) := fun ob => (HA.out.after_alloc ob).cell 3
  have la4 : ∀ ob, (W0.alloc ob).cell? ⟨w.heap.size, 4, none⟩ = some (.string r) := fun ob => (HA.out.after_alloc ob).cell 4
  have le0 : ∀ ob, (W0.alloc ob).cell? ⟨w.heap.size + 1, 0, none⟩ = some (.int .i64 l) := fun ob => (HE.out.after_alloc ob).cell 0
  have le1 : ∀ ob, (W0.alloc ob).cell? ⟨w.heap.size + 1, 1, none⟩ = some (.string y) := fun ob => (HE.out.after_alloc ob).cell 1
  have le2 : ∀ ob, (W0.alloc ob).cell? ⟨w.heap.size + 1, 2, none⟩ = some (.string z) := fun ob => (HE.out.after_alloc ob).cell 2
  rw [rounds_succ]
  go_wp2_with (first
    | (go_at_call 20; with_reducible refine (X0 _).mono ?_; rintro e w6 ⟨rfl, hk6⟩; have HA := Lib.hid (hk6.box (HA.out.after_alloc _) (fun h => h)); have HE := Lib.hid (hk6.box (HE.out.after_alloc _) (fun h => h)); have HI := Lib.hid (hk6.box (HI.out.after_alloc _) (fun h => h)); have ix0 := HI.out.cell 0; have if0 := HI.out.free 0; have ix1 := HI.out.cell 1; have if1 := HI.out.free 1; have ix2 := HI.out.cell 2; have if2 := HI.out.free 2; have HK := Lib.hid (Kept.trans (HK.out.alloc _) hk6 (fun _ _ h => h)); clear hk6)
    | fail)
  have bA : Box (w6.setCell ⟨gI, 0, none⟩ (.bool false)) w.heap.size 31 #[.string na, .int .u8 (o : Int), .int .i64 n, .string v, .string r] := box_apart HA.out (show w.heap.size ≠ gI by omega) _
  have bE : Box (w6.setCell ⟨gI, 0, none⟩ (.bool false)) (w.heap.size + 1) 29 #[.int .i64 l, .string y, .string z] := box_apart HE.out (show w.heap.size + 1 ≠ gI by omega) _
  have bI : Box (w6.setCell ⟨gI, 0, none⟩ (.bool false)) gI 41 #[.bool false, .bool false, .bool false] := HI.out.stored 0 _
  have bK : Kept (fun _ => False) w (w6.setCell ⟨gI, 0, none⟩ (.bool false)) := HK.out.setCell (p := ⟨gI, 0, none⟩) (.inr (by show w.heap.size ≤ gI; omega)) _
  generalize (w6.setCell ⟨gI, 0, none⟩ (.bool false)) = W1 at bA bE bI bK ⊢
  have HA := Lib.hid bA
  have HE := Lib.hid bE
  have HI := Lib.hid bI
  have HK := Lib.hid bK
  clear bA bE bI bK
  have ax0 := HA.out.cell 0
  have ax1 := HA.out.cell 1
  have ax2 := HA.out.cell 2
  have ax3 := HA.out.cell 3
  have ax4 := HA.out.cell 4
  have ex0 := HE.out.cell 0
  have ex1 := HE.out.cell 1
  have ex2 := HE.out.cell 2
  have la0 : ∀ ob, (W1.alloc ob).cell? ⟨w.heap.size, 0, none⟩ = some (.string na) := fun ob => (HA.out.after_alloc ob).cell 0
  have la1 : ∀ ob, (W1.alloc ob).cell? ⟨w.heap.size, 1, none⟩ = some (.int .u8 (o : Int)) := fun ob => (HA.out.after_alloc ob).cell 1
  have la2 : ∀ ob, (W1.alloc ob).cell? ⟨w.heap.size, 2, none⟩ = some (.int .i64 n) := fun ob => (HA.out.after_alloc ob).cell 2
  have la3 : ∀ ob, (W1.alloc ob).cell? ⟨w.heap.size, 3, none⟩ = some (.string v) := fun ob => (HA.out.after_alloc ob).cell 3
  have la4 : ∀ ob, (W1.alloc ob).cell? ⟨w.heap.size, 4, none⟩ = some (.string r) := fun ob => (HA.out.after_alloc ob).cell 4
  have le0 : ∀ ob, (W1.alloc ob).cell? ⟨w.heap.size + 1, 0, none⟩ = some (.int .i64 l) := fun ob => (HE.out.after_alloc ob).cell 0
  have le1 : ∀ ob, (W1.alloc ob).cell? ⟨w.heap.size + 1, 1, none⟩ = some (.string y) := fun ob => (HE.out.after_alloc ob).cell 1
  have le2 : ∀ ob, (W1.alloc ob).cell? ⟨w.heap.size + 1, 2, none⟩ = some (.string z) := fun ob => (HE.out.after_alloc ob).cell 2
  rw [rounds_succ]
  go_wp2_with (first
    | (go_at_call 20; with_reducible refine (X1 _).mono ?_; rintro e w6 ⟨rfl, hk6⟩; have HA := Lib.hid (hk6.box (HA.out.after_alloc _) (fun h => h)); have HE := Lib.hid (hk6.box (HE.out.after_alloc _) (fun h => h)); have HI := Lib.hid (hk6.box (HI.out.after_alloc _) (fun h => h)); have ix0 := HI.out.cell 0; have if0 := HI.out.free 0; have ix1 := HI.out.cell 1; have if1 := HI.out.free 1; have ix2 := HI.out.cell 2; have if2 := HI.out.free 2; have HK := Lib.hid (Kept.trans (HK.out.alloc _) hk6 (fun _ _ h => h)); clear hk6)
    | fail)
  have bA : Box (w6.setCell ⟨gI, 1, none⟩ (.bool true)) w.heap.size 31 #[.string na, .int .u8 (o : Int), .int .i64 n, .string v, .string r] := box_apart HA.out (show w.heap.size ≠ gI by omega) _
  have bE : Box (w6.setCell ⟨gI, 1, none⟩ (.bool true)) (w.heap.size + 1) 29 #[.int .i64 l, .string y, .string z] := box_apart HE.out (show w.heap.size + 1 ≠ gI by omega) _
  have bI : Box (w6.setCell ⟨gI, 1, none⟩ (.bool true)) gI 41 #[.bool false, .bool true, .bool false] := HI.out.stored 1 _
  have bK : Kept (fun _ => False) w (w6.setCell ⟨gI, 1, none⟩ (.bool true)) := HK.out.setCell (p := ⟨gI, 1, none⟩) (.inr (by show w.heap.size ≤ gI; omega)) _
  generalize (w6.setCell ⟨gI, 1, none⟩ (.bool true)) = W2 at bA bE bI bK ⊢
  have HA := Lib.hid bA
  have HE := Lib.hid bE
  have HI := Lib.hid bI
  have HK := Lib.hid bK
  clear bA bE bI bK
  have ax0 := HA.out.cell 0
  have ax1 := HA.out.cell 1
  have ax2 := HA.out.cell 2
  have ax3 := HA.out.cell 3
  have ax4 := HA.out.cell 4
  have ex0 := HE.out.cell 0
  have ex1 := HE.out.cell 1
  have ex2 := HE.out.cell 2
  have la0 : ∀ ob, (W2.alloc ob).cell? ⟨w.heap.size, 0, none⟩ = some (.string na) := fun ob => (HA.out.after_alloc ob).cell 0
  have la1 : ∀ ob, (W2.alloc ob).cell? ⟨w.heap.size, 1, none⟩ = some (.int .u8 (o : Int)) := fun ob => (HA.out.after_alloc ob).cell 1
  have la2 : ∀ ob, (W2.alloc ob).cell? ⟨w.heap.size, 2, none⟩ = some (.int .i64 n) := fun ob => (HA.out.after_alloc ob).cell 2
  have la3 : ∀ ob, (W2.alloc ob).cell? ⟨w.heap.size, 3, none⟩ = some (.string v) := fun ob => (HA.out.after_alloc ob).cell 3
  have la4 : ∀ ob, (W2.alloc ob).cell? ⟨w.heap.size, 4, none⟩ = some (.string r) := fun ob => (HA.out.after_alloc ob).cell 4
  have le0 : ∀ ob, (W2.alloc ob).cell? ⟨w.heap.size + 1, 0, none⟩ = some (.int .i64 l) := fun ob => (HE.out.after_alloc ob).cell 0
  have le1 : ∀ ob, (W2.alloc ob).cell? ⟨w.heap.size + 1, 1, none⟩ = some (.string y) := fun ob => (HE.out.after_alloc ob).cell 1
  have le2 : ∀ ob, (W2.alloc ob).cell? ⟨w.heap.size + 1, 2, none⟩ = some (.string z) := fun ob => (HE.out.after_alloc ob).cell 2
  rw [rounds_succ]
  go_wp2_with (first
    | (go_at_call 20; with_reducible refine (X2 _).mono ?_; rintro e w6 ⟨rfl, hk6⟩; have HA := Lib.hid (hk6.box (HA.out.after_alloc _) (fun h => h)); have HE := Lib.hid (hk6.box (HE.out.after_alloc _) (fun h => h)); have HI := Lib.hid (hk6.box (HI.out.after_alloc _) (fun h => h)); have ix0 := HI.out.cell 0; have if0 := HI.out.free 0; have ix1 := HI.out.cell 1; have if1 := HI.out.free 1; have ix2 := HI.out.cell 2; have if2 := HI.out.free 2; have HK := Lib.hid (Kept.trans (HK.out.alloc _) hk6 (fun _ _ h => h)); clear hk6)
    | fail)
  have bA : Box (w6.setCell ⟨gI, 2, none⟩ (.bool false)) w.heap.size 31 #[.string na, .int .u8 (o : Int), .int .i64 n, .string v, .string r] := box_apart HA.out (show w.heap.size ≠ gI by omega) _
  have bE : Box (w6.setCell ⟨gI, 2, none⟩ (.bool false)) (w.heap.size + 1) 29 #[.int .i64 l, .string y, .string z] := box_apart HE.out (show w.heap.size + 1 ≠ gI by omega) _
  have bI : Box (w6.setCell ⟨gI, 2, none⟩ (.bool false)) gI 41 #[.bool false, .bool true, .bool false] := HI.out.stored 2 _
  have bK : Kept (fun _ => False) w (w6.setCell ⟨gI, 2, none⟩ (.bool false)) := HK.out.setCell (p := ⟨gI, 2, none⟩) (.inr (by show w.heap.size ≤ gI; omega)) _
  generalize (w6.setCell ⟨gI, 2, none⟩ (.bool false)) = W3 at bA bE bI bK ⊢
  have HA := Lib.hid bA
  have HE := Lib.hid bE
  have HI := Lib.hid bI
  have HK := Lib.hid bK
  clear bA bE bI bK
  have ax0 := HA.out.cell 0
  have ax1 := HA.out.cell 1
  have ax2 := HA.out.cell 2
  have ax3 := HA.out.cell 3
  have ax4 := HA.out.cell 4
  have ex0 := HE.out.cell 0
  have ex1 := HE.out.cell 1
  have ex2 := HE.out.cell 2
  have szA := HA.out.lt
  have szE := HE.out.lt
  have szI := HI.out.lt
  have neA := Nat.ne_of_lt szA
  have neA' : ¬ w.heap.size = W3.heap.size + 1 := by omega
  rw [rounds_succ]
  go_wp2_with fail
  go_region
  · have bP : Box ((W3.alloc (.cells #[.string na, .int .u8 (o : Int), .int .i64 n, .string v, .string r] 31)).alloc (.cells #[.string na, .int .u8 (o : Int), .int .i64 n, .string v, .string r] 31)).drew W3.heap.size 31 #[.string na, .int .u8 (o : Int), .int .i64 n, .string v, .string r] := (Box.made W3 _ _).after_alloc _
    have bQ : Box ((W3.alloc (.cells #[.string na, .int .u8 (o : Int), .int .i64 n, .string v, .string r] 31)).alloc (.cells #[.string na, .int .u8 (o : Int), .int .i64 n, .string v, .string r] 31)).drew (W3.heap.size + 1) 31 #[.string na, .int .u8 (o : Int), .int .i64 n, .string v, .string r] := by
      have h := Box.made (W3.alloc (.cells #[.string na, .int .u8 (o : Int), .int .i64 n, .string v, .string r] 31)) 31 #[.string na, .int .u8 (o : Int), .int .i64 n, .string v, .string r]
      rw [World.size_alloc] at h
      exact h
    have bA : Box ((W3.alloc (.cells #[.string na, .int .u8 (o : Int), .int .i64 n, .string v, .string r] 31)).alloc (.cells #[.string na, .int .u8 (o : Int), .int .i64 n, .string v, .string r] 31)).drew w.heap.size 31 #[.string na, .int .u8 (o : Int), .int .i64 n, .string v, .string r] := (HA.out.after_alloc _).after_alloc _
    have bE : Box ((W3.alloc (.cells #[.string na, .int .u8 (o : Int), .int .i64 n, .string v, .string r] 31)).alloc (.cells #[.string na, .int .u8 (o : Int), .int .i64 n, .string v, .string r] 31)).drew (w.heap.size + 1) 29 #[.int .i64 l, .string y, .string z] := (HE.out.after_alloc _).after_alloc _
    have bI : Box ((W3.alloc (.cells #[.string na, .int .u8 (o : Int), .int .i64 n, .string v, .string r] 31)).alloc (.cells #[.string na, .int .u8 (o : Int), .int .i64 n, .string v, .string r] 31)).drew gI 41 #[.bool false, .bool true, .bool false] := (HI.out.after_alloc _).after_alloc _
    have bK : Kept (fun _ => False) w ((W3.alloc (.cells #[.string na, .int .u8 (o : Int), .int .i64 n, .string v, .string r] 31)).alloc (.cells #[.string na, .int .u8 (o : Int), .int .i64 n, .string v, .string r] 31)).drew := ((HK.out.alloc _).alloc _).drew
    generalize ((W3.alloc (.cells #[.string na, .int .u8 (o : Int), .int .i64 n, .string v, .string r] 31)).alloc (.cells #[.string na, .int .u8 (o : Int), .int .i64 n, .string v, .string r] 31)).drew = W4 at bA bE bI bP bQ bK ⊢
    have zP : gI < W3.heap.size := by omega
    have zQ : gI < W3.heap.size + 1 := by omega
    have hPQ : W3.heap.size ≠ W3.heap.size + 1 := by omega
    clear szA szE szI neA neA'
    generalize W3.heap.size + 1 = Q at bQ zQ hPQ ⊢
    generalize W3.heap.size = P at bP zP hPQ ⊢
    have px1 : W4.cell? ⟨P, 1, none⟩ = some (.int .u8 (o : Int)) := bP.cell 1
    have qx1 : W4.cell? ⟨Q, 1, none⟩ = some (.int .u8 (o : Int)) := bQ.cell 1
    have pf := bP.free 1
    have qf := bQ.free 1
    have hQP := Ne.symm hPQ
    have HA := Lib.hid bA
    have HE := Lib.hid bE
    have HI := Lib.hid bI
    have HP := Lib.hid bP
    have HQ := Lib.hid bQ
    have HK := Lib.hid bK
    clear bA bE bI bP bQ bK
    go_wp2_with fail
    have bA : Box ((W4.setCell ⟨P, 1, none⟩ (.int .u8 3)).setCell ⟨Q, 1, none⟩ (.int .u8 6)) w.heap.size 31 #[.string na, .int .u8 (o : Int), .int .i64 n, .string v, .string r] := box_apart (box_apart HA.out (show w.heap.size ≠ P by omega) _) (show w.heap.size ≠ Q by omega) _
    have bE : Box ((W4.setCell ⟨P, 1, none⟩ (.int .u8 3)).setCell ⟨Q, 1, none⟩ (.int .u8 6)) (w.heap.size + 1) 29 #[.int .i64 l, .string y, .string z] := box_apart (box_apart HE.out (show (w.heap.size + 1) ≠ P by omega) _) (show (w.heap.size + 1) ≠ Q by omega) _
    have bI : Box ((W4.setCell ⟨P, 1, none⟩ (.int .u8 3)).setCell ⟨Q, 1, none⟩ (.int .u8 6)) gI 41 #[.bool false, .bool true, .bool false] := box_apart (box_apart HI.out (show gI ≠ P by omega) _) (show gI ≠ Q by omega) _
    have bP : Box ((W4.setCell ⟨P, 1, none⟩ (.int .u8 3)).setCell ⟨Q, 1, none⟩ (.int .u8 6)) P 31 #[.string na, .int .u8 (3), .int .i64 n, .string v, .string r] := box_apart (HP.out.stored 1 _) hPQ _
    have bQ : Box ((W4.setCell ⟨P, 1, none⟩ (.int .u8 3)).setCell ⟨Q, 1, none⟩ (.int .u8 6)) Q 31 #[.string na, .int .u8 (6), .int .i64 n, .string v, .string r] := (box_apart HQ.out hQP _).stored 1 _
    have bK : Kept (fun _ => False) w ((W4.setCell ⟨P, 1, none⟩ (.int .u8 3)).setCell ⟨Q, 1, none⟩ (.int .u8 6)) := (HK.out.setCell (p := ⟨P, 1, none⟩) (.inr (by show w.heap.size ≤ P; omega)) _).setCell (p := ⟨Q, 1, none⟩) (.inr (by show w.heap.size ≤ Q; omega)) _
    generalize ((W4.setCell ⟨P, 1, none⟩ (.int .u8 3)).setCell ⟨Q, 1, none⟩ (.int .u8 6)) = W5 at bA bE bI bP bQ bK ⊢
    have HA := Lib.hid bA
    have HE := Lib.hid bE
    have HI := Lib.hid bI
    have HP := Lib.hid bP
    have HQ := Lib.hid bQ
    have HK := Lib.hid bK
    clear bA bE bI bP bQ bK px1 qx1 pf qf
    obtain ⟨T, F, t0, ht0, hFk, hFs⟩ := class_of W5
    have qa0 : ∀ t, (F t).cell? ⟨w.heap.size, 0, none⟩ = some (.string na) := fun t => ((hFk t).box HA.out (fun h => h)).cell 0
    have qa1 : ∀ t, (F t).cell? ⟨w.heap.size, 1, none⟩ = some (.int .u8 (o : Int)) := fun t => ((hFk t).box HA.out (fun h => h)).cell 1
    have qa2 : ∀ t, (F t).cell? ⟨w.heap.size, 2, none⟩ = some (.int .i64 n) := fun t => ((hFk t).box HA.out (fun h => h)).cell 2
    have qa3 : ∀ t, (F t).cell? ⟨w.heap.size, 3, none⟩ = some (.string v) := fun t => ((hFk t).box HA.out (fun h => h)).cell 3
    have qa4 : ∀ t, (F t).cell? ⟨w.heap.size, 4, none⟩ = some (.string r) := fun t => ((hFk t).box HA.out (fun h => h)).cell 4
    have qe0 : ∀ t, (F t).cell? ⟨w.heap.size + 1, 0, none⟩ = some (.int .i64 l) := fun t => ((hFk t).box HE.out (fun h => h)).cell 0
    have qe1 : ∀ t, (F t).cell? ⟨w.heap.size + 1, 1, none⟩ = some (.string y) := fun t => ((hFk t).box HE.out (fun h => h)).cell 1
    have qe2 : ∀ t, (F t).cell? ⟨w.heap.size + 1, 2, none⟩ = some (.string z) := fun t => ((hFk t).box HE.out (fun h => h)).cell 2
    have qi0 : ∀ t, (F t).cell? ⟨gI, 0, none⟩ = some (.bool false) := fun t => ((hFk t).box HI.out (fun h => h)).cell 0
    have qi1 : ∀ t, (F t).cell? ⟨gI, 1, none⟩ = some (.bool true) := fun t => ((hFk t).box HI.out (fun h => h)).cell 1
    have qi2 : ∀ t, (F t).cell? ⟨gI, 2, none⟩ = some (.bool false) := fun t => ((hFk t).box HI.out (fun h => h)).cell 2
    have qp0 : ∀ t, (F t).cell? ⟨P, 0, none⟩ = some (.string na) := fun t => ((hFk t).box HP.out (fun h => h)).cell 0
    have qp1 : ∀ t, (F t).cell? ⟨P, 1, none⟩ = some (.int .u8 (3)) := fun t => ((hFk t).box HP.out (fun h => h)).cell 1
    have qp2 : ∀ t, (F t).cell? ⟨P, 2, none⟩ = some (.int .i64 n) := fun t => ((hFk t).box HP.out (fun h => h)).cell 2
    have qp3 : ∀ t, (F t).cell? ⟨P, 3, none⟩ = some (.string v) := fun t => ((hFk t).box HP.out (fun h => h)).cell 3
    have qp4 : ∀ t, (F t).cell? ⟨P, 4, none⟩ = some (.string r) := fun t => ((hFk t).box HP.out (fun h => h)).cell 4
    have qq0 : ∀ t, (F t).cell? ⟨Q, 0, none⟩ = some (.string na) := fun t => ((hFk t).box HQ.out (fun h => h)).cell 0
    have qq1 : ∀ t, (F t).cell? ⟨Q, 1, none⟩ = some (.int .u8 (6)) := fun t => ((hFk t).box HQ.out (fun h => h)).cell 1
    have qq2 : ∀ t, (F t).cell? ⟨Q, 2, none⟩ = some (.int .i64 n) := fun t => ((hFk t).box HQ.out (fun h => h)).cell 2
    have qq3 : ∀ t, (F t).cell? ⟨Q, 3, none⟩ = some (.string v) := fun t => ((hFk t).box HQ.out (fun h => h)).cell 3
    have qq4 : ∀ t, (F t).cell? ⟨Q, 4, none⟩ = some (.string r) := fun t => ((hFk t).box HQ.out (fun h => h)).cell 4
    have HFK := Lib.hid hFk
    have HFS := Lib.hid hFs
    clear hFk hFs
    have hne : Nonempty T := ⟨t0⟩
    refine wp_region_class F t0 ht0 (by kernel_rfl) (by kernel_rfl) ?_
    repeat (go_big_quiet_step (first
      | (go_at_call 20; (first | with_reducible exact class_call HFS.out (XL _) | with_reducible exact class_call HFS.out (XH _)))
      | (go_at_call 22; (first | with_reducible exact class_call HFS.out (CC _)))))
    refine wpQuiet_nil ?_
    rintro _ ⟨tz, rfl⟩
    have hkz := HK.out.trans (HFK.out tz) (fun _ _ h => h)
    go_wp2_with fail
    go_ret
    exact ⟨rfl, hkz⟩
  · have bQ : Box ((W3.alloc (.cells #[.string na, .int .u8 (o : Int), .int .i64 n, .string v, .string r] 31)).alloc (.cells #[.string na, .int .u8 (o : Int), .int .i64 n, .string v, .string r] 31)).drew W3.heap.size 31 #[.string na, .int .u8 (o : Int), .int .i64 n, .string v, .string r] := (Box.made W3 _ _).after_alloc _
    have bP : Box ((W3.alloc (.cells #[.string na, .int .u8 (o : Int), .int .i64 n, .string v, .string r] 31)).alloc (.cells #[.string na, .int .u8 (o : Int), .int .i64 n, .string v, .string r] 31)).drew (W3.heap.size + 1) 31 #[.string na, .int .u8 (o : Int), .int .i64 n, .string v, .string r] := by
      have h := Box.made (W3.alloc (.cells #[.string na, .int .u8 (o : Int), .int .i64 n, .string v, .string r] 31)) 31 #[.string na, .int .u8 (o : Int), .int .i64 n, .string v, .string r]
      rw [World.size_alloc] at h
      exact h
    have bA : Box ((W3.alloc (.cells #[.string na, .int .u8 (o : Int), .int .i64 n, .string v, .string r] 31)).alloc (.cells #[.string na, .int .u8 (o : Int), .int .i64 n, .string v, .string r] 31)).drew w.heap.size 31 #[.string na, .int .u8 (o : Int), .int .i64 n, .string v, .string r] := (HA.out.after_alloc _).after_alloc _
    have bE : Box ((W3.alloc (.cells #[.string na, .int .u8 (o : Int), .int .i64 n, .string v, .string r] 31)).alloc (.cells #[.string na, .int .u8 (o : Int), .int .i64 n, .string v, .string r] 31)).drew (w.heap.size + 1) 29 #[.int .i64 l, .string y, .string z] := (HE.out.after_alloc _).after_alloc _
    have bI : Box ((W3.alloc (.cells #[.string na, .int .u8 (o : Int), .int .i64 n, .string v, .string r] 31)).alloc (.cells #[.string na, .int .u8 (o : Int), .int .i64 n, .string v, .string r] 31)).drew gI 41 #[.bool false, .bool true, .bool false] := (HI.out.after_alloc _).after_alloc _
    have bK : Kept (fun _ => False) w ((W3.alloc (.cells #[.string na, .int .u8 (o : Int), .int .i64 n, .string v, .string r] 31)).alloc (.cells #[.string na, .int .u8 (o : Int), .int .i64 n, .string v, .string r] 31)).drew := ((HK.out.alloc _).alloc _).drew
    generalize ((W3.alloc (.cells #[.string na, .int .u8 (o : Int), .int .i64 n, .string v, .string r] 31)).alloc (.cells #[.string na, .int .u8 (o : Int), .int .i64 n, .string v, .string r] 31)).drew = W4 at bA bE bI bP bQ bK ⊢
    have zP : gI < W3.heap.size + 1 := by omega
    have zQ : gI < W3.heap.size := by omega
    have hPQ : W3.heap.size + 1 ≠ W3.heap.size := by omega
    clear szA szE szI neA neA'
    generalize W3.heap.size + 1 = P at bP zP hPQ ⊢
    generalize W3.heap.size = Q at bQ zQ hPQ ⊢
    have px1 : W4.cell? ⟨P, 1, none⟩ = some (.int .u8 (o : Int)) := bP.cell 1
    have qx1 : W4.cell? ⟨Q, 1, none⟩ = some (.int .u8 (o : Int)) := bQ.cell 1
    have pf := bP.free 1
    have qf := bQ.free 1
    have hQP := Ne.symm hPQ
    have HA := Lib.hid bA
    have HE := Lib.hid bE
    have HI := Lib.hid bI
    have HP := Lib.hid bP
    have HQ := Lib.hid bQ
    have HK := Lib.hid bK
    clear bA bE bI bP bQ bK
    go_wp2_with fail
    have bA : Box ((W4.setCell ⟨P, 1, none⟩ (.int .u8 3)).setCell ⟨Q, 1, none⟩ (.int .u8 6)) w.heap.size 31 #[.string na, .int .u8 (o : Int), .int .i64 n, .string v, .string r] := box_apart (box_apart HA.out (show w.heap.size ≠ P by omega) _) (show w.heap.size ≠ Q by omega) _
    have bE : Box ((W4.setCell ⟨P, 1, none⟩ (.int .u8 3)).setCell ⟨Q, 1, none⟩ (.int .u8 6)) (w.heap.size + 1) 29 #[.int .i64 l, .string y, .string z] := box_apart (box_apart HE.out (show (w.heap.size + 1) ≠ P by omega) _) (show (w.heap.size + 1) ≠ Q by omega) _
    have bI : Box ((W4.setCell ⟨P, 1, none⟩ (.int .u8 3)).setCell ⟨Q, 1, none⟩ (.int .u8 6)) gI 41 #[.bool false, .bool true, .bool false] := box_apart (box_apart HI.out (show gI ≠ P by omega) _) (show gI ≠ Q by omega) _
    have bP : Box ((W4.setCell ⟨P, 1, none⟩ (.int .u8 3)).setCell ⟨Q, 1, none⟩ (.int .u8 6)) P 31 #[.string na, .int .u8 (3), .int .i64 n, .string v, .string r] := box_apart (HP.out.stored 1 _) hPQ _
    have bQ : Box ((W4.setCell ⟨P, 1, none⟩ (.int .u8 3)).setCell ⟨Q, 1, none⟩ (.int .u8 6)) Q 31 #[.string na, .int .u8 (6), .int .i64 n, .string v, .string r] := (box_apart HQ.out hQP _).stored 1 _
    have bK : Kept (fun _ => False) w ((W4.setCell ⟨P, 1, none⟩ (.int .u8 3)).setCell ⟨Q, 1, none⟩ (.int .u8 6)) := (HK.out.setCell (p := ⟨P, 1, none⟩) (.inr (by show w.heap.size ≤ P; omega)) _).setCell (p := ⟨Q, 1, none⟩) (.inr (by show w.heap.size ≤ Q; omega)) _
    generalize ((W4.setCell ⟨P, 1, none⟩ (.int .u8 3)).setCell ⟨Q, 1, none⟩ (.int .u8 6)) = W5 at bA bE bI bP bQ bK ⊢
    have HA := Lib.hid bA
    have HE := Lib.hid bE
    have HI := Lib.hid bI
    have HP := Lib.hid bP
    have HQ := Lib.hid bQ
    have HK := Lib.hid bK
    clear bA bE bI bP bQ bK px1 qx1 pf qf
    obtain ⟨T, F, t0, ht0, hFk, hFs⟩ := class_of W5
    have qa0 : ∀ t, (F t).cell? ⟨w.heap.size, 0, none⟩ = some (.string na) := fun t => ((hFk t).box HA.out (fun h => h)).cell 0
    have qa1 : ∀ t, (F t).cell? ⟨w.heap.size, 1, none⟩ = some (.int .u8 (o : Int)) := fun t => ((hFk t).box HA.out (fun h => h)).cell 1
    have qa2 : ∀ t, (F t).cell? ⟨w.heap.size, 2, none⟩ = some (.int .i64 n) := fun t => ((hFk t).box HA.out (fun h => h)).cell 2
    have qa3 : ∀ t, (F t).cell? ⟨w.heap.size, 3, none⟩ = some (.string v) := fun t => ((hFk t).box HA.out (fun h => h)).cell 3
    have qa4 : ∀ t, (F t).cell? ⟨w.heap.size, 4, none⟩ = some (.string r) := fun t => ((hFk t).box HA.out (fun h => h)).cell 4
    have qe0 : ∀ t, (F t).cell? ⟨w.heap.size + 1, 0, none⟩ = some (.int .i64 l) := fun t => ((hFk t).box HE.out (fun h => h)).cell 0
    have qe1 : ∀ t, (F t).cell? ⟨w.heap.size + 1, 1, none⟩ = some (.string y) := fun t => ((hFk t).box HE.out (fun h => h)).cell 1
    have qe2 : ∀ t, (F t).cell? ⟨w.heap.size + 1, 2, none⟩ = some (.string z) := fun t => ((hFk t).box HE.out (fun h => h)).cell 2
    have qi0 : ∀ t, (F t).cell? ⟨gI, 0, none⟩ = some (.bool false) := fun t => ((hFk t).box HI.out (fun h => h)).cell 0
    have qi1 : ∀ t, (F t).cell? ⟨gI, 1, none⟩ = some (.bool true) := fun t => ((hFk t).box HI.out (fun h => h)).cell 1
    have qi2 : ∀ t, (F t).cell? ⟨gI, 2, none⟩ = some (.bool false) := fun t => ((hFk t).box HI.out (fun h => h)).cell 2
    have qp0 : ∀ t, (F t).cell? ⟨P, 0, none⟩ = some (.string na) := fun t => ((hFk t).box HP.out (fun h => h)).cell 0
    have qp1 : ∀ t, (F t).cell? ⟨P, 1, none⟩ = some (.int .u8 (3)) := fun t => ((hFk t).box HP.out (fun h => h)).cell 1
    have qp2 : ∀ t, (F t).cell? ⟨P, 2, none⟩ = some (.int .i64 n) := fun t => ((hFk t).box HP.out (fun h => h)).cell 2
    have qp3 : ∀ t, (F t).cell? ⟨P, 3, none⟩ = some (.string v) := fun t => ((hFk t).box HP.out (fun h => h)).cell 3
    have qp4 : ∀ t, (F t).cell? ⟨P, 4, none⟩ = some (.string r) := fun t => ((hFk t).box HP.out (fun h => h)).cell 4
    have qq0 : ∀ t, (F t).cell? ⟨Q, 0, none⟩ = some (.string na) := fun t => ((hFk t).box HQ.out (fun h => h)).cell 0
    have qq1 : ∀ t, (F t).cell? ⟨Q, 1, none⟩ = some (.int .u8 (6)) := fun t => ((hFk t).box HQ.out (fun h => h)).cell 1
    have qq2 : ∀ t, (F t).cell? ⟨Q, 2, none⟩ = some (.int .i64 n) := fun t => ((hFk t).box HQ.out (fun h => h)).cell 2
    have qq3 : ∀ t, (F t).cell? ⟨Q, 3, none⟩ = some (.string v) := fun t => ((hFk t).box HQ.out (fun h => h)).cell 3
    have qq4 : ∀ t, (F t).cell? ⟨Q, 4, none⟩ = some (.string r) := fun t => ((hFk t).box HQ.out (fun h => h)).cell 4
    have HFK := Lib.hid hFk
    have HFS := Lib.hid hFs
    clear hFk hFs
    have hne : Nonempty T := ⟨t0⟩
    refine wp_region_class F t0 ht0 (by kernel_rfl) (by kernel_rfl) ?_
    repeat (go_big_quiet_step (first
      | (go_at_call 20; (first | with_reducible exact class_call HFS.out (XL _) | with_reducible exact class_call HFS.out (XH _)))
      | (go_at_call 22; (first | with_reducible exact class_call HFS.out (CC _)))))
    refine wpQuiet_nil ?_
    rintro _ ⟨tz, rfl⟩
    have hkz := HK.out.trans (HFK.out tz) (fun _ _ h => h)
    go_wp2_with fail
    go_ret
    exact ⟨rfl, hkz⟩
set_option maxRecDepth 100000 in
set_option maxHeartbeats 2000000 in
theorem spanparted_more (na : ByteArray) (o : Nat) (n : Int) (v r : ByteArray) (l : Int) (y z : ByteArray) (w : World) (hA : ∀ W : World, Calls Tryd.prog 17 #[.agg #[.int .i64 n, .string v, .string r]] W fun e w' => e = .returned (.bool false) ∧ Kept (fun _ => False) W w') (hE : ∀ W : World, Calls Tryd.prog 17 #[.agg #[.int .i64 l, .string y, .string z]] W fun e w' => e = .returned (.bool false) ∧ Kept (fun _ => False) W w') (X0 : ∀ W : World, Calls Tryd.prog 20 #[.agg #[.string na, .int .u8 (1), .int .i64 n, .string v, .string r], .agg #[.int .i64 l, .string y, .string z]] W fun e w' => e = .returned (.bool false) ∧ Kept (fun _ => False) W w') (X1 : ∀ W : World, Calls Tryd.prog 20 #[.agg #[.string na, .int .u8 (2), .int .i64 n, .string v, .string r], .agg #[.int .i64 l, .string y, .string z]] W fun e w' => e = .returned (.bool false) ∧ Kept (fun _ => False) W w') (X2 : ∀ W : World, Calls Tryd.prog 20 #[.agg #[.string na, .int .u8 (4), .int .i64 n, .string v, .string r], .agg #[.int .i64 l, .string y, .string z]] W fun e w' => e = .returned (.bool true) ∧ Kept (fun _ => False) W w') (XL : ∀ W : World, Calls Tryd.prog 20 #[.agg #[.string na, .int .u8 (3), .int .i64 n, .string v, .string r], .agg #[.int .i64 l, .string y, .string z]] W fun e w' => e = .returned (.bool false) ∧ Kept (fun _ => False) W w') (XH : ∀ W : World, Calls Tryd.prog 20 #[.agg #[.string na, .int .u8 (6), .int .i64 n, .string v, .string r], .agg #[.int .i64 l, .string y, .string z]] W fun e w' => e = .returned (.bool true) ∧ Kept (fun _ => False) W w') (CC : ∀ W : World, Calls Tryd.prog 22 #[.agg #[.int .i64 l, .string y, .string z], .agg #[.int .i64 n, .string v, .string r]] W fun e w' => e = .returned (.int .i64 (1)) ∧ Kept (fun _ => False) W w') : Calls Tryd.prog 9 #[.agg #[.string na, .int .u8 (o : Int), .int .i64 n, .string v, .string r], .agg #[.int .i64 l, .string y, .string z]] w fun e w' => e = .returned (.bool true) ∧ Kept (fun _ => False) w w' := by
  have hW := awake_walk
  have hk0 : Kept (fun _ => False) w ((w.alloc (.cells #[.string na, .int .u8 (o : Int), .int .i64 n, .string v, .string r] 31)).alloc (.cells #[.int .i64 l, .string y, .string z] 29)) := ((Kept.refl _ _).alloc _).alloc _
  have HK := Lib.hid hk0
  have bA := (Box.made w 31 #[.string na, .int .u8 (o : Int), .int .i64 n, .string v, .string r]).after_alloc (.cells #[.int .i64 l, .string y, .string z] 29)
  have bE := Box.made (w.alloc (.cells #[.string na, .int .u8 (o : Int), .int .i64 n, .string v, .string r] 31)) 29 #[.int .i64 l, .string y, .string z]
  rw [World.size_alloc] at bE
  have HA := Lib.hid bA
  have HE := Lib.hid bE
  clear hk0 bA bE
  go_enter Tryd.func9, Tryd.ntmps9
  go_wp2_with (first
    | (go_at_call 17; (first | with_reducible refine (hA _).mono ?_ | with_reducible refine (hE _).mono ?_); rintro e w5 ⟨rfl, hk5⟩; have HA := Lib.hid (hk5.box HA.out (fun h => h)); have HE := Lib.hid (hk5.box HE.out (fun h => h)); have ax0 := HA.out.cell 0; have ax1 := HA.out.cell 1; have ax2 := HA.out.cell 2; have ax3 := HA.out.cell 3; have ax4 := HA.out.cell 4; have ex0 := HE.out.cell 0; have ex1 := HE.out.cell 1; have ex2 := HE.out.cell 2; have HK := Lib.hid (Kept.trans HK.out hk5 (fun _ _ h => h)); clear hk5)
    | (go_at_call 10; (first | with_reducible refine (hW _).mono ?_); rintro e w5 ⟨rfl, hk5⟩; have HA := Lib.hid (hk5.box HA.out (fun h => h)); have HE := Lib.hid (hk5.box HE.out (fun h => h)); have ax0 := HA.out.cell 0; have ax1 := HA.out.cell 1; have ax2 := HA.out.cell 2; have ax3 := HA.out.cell 3; have ax4 := HA.out.cell 4; have ex0 := HE.out.cell 0; have ex1 := HE.out.cell 1; have ex2 := HE.out.cell 2; have HK := Lib.hid (Kept.trans HK.out hk5 (fun _ _ h => h)); clear hk5)
    | fail)
  have zI : w.heap.size + 1 < w5.heap.size := HE.out.lt
  have bK : Kept (fun _ => False) w (w5.alloc (.cells #[.bool false, .bool false, .bool false] 41)) := HK.out.alloc _
  have bA := HA.out.after_alloc (.cells #[.bool false, .bool false, .bool false] 41)
  have bE := HE.out.after_alloc (.cells #[.bool false, .bool false, .bool false] 41)
  have bI := Box.made w5 41 #[.bool false, .bool false, .bool false]
  generalize w5.alloc (.cells #[.bool false, .bool false, .bool false] 41) = W0 at bK bA bE bI ⊢
  generalize w5.heap.size = gI at zI bI ⊢
  clear hA hE hW
  refine wp_loop_rounds 4 ?_
  have HA := Lib.hid bA
  have HE := Lib.hid bE
  have HI := Lib.hid bI
  have HK := Lib.hid bK
  clear bA bE bI bK
  have ax0 := HA.out.cell 0
  have ax1 := HA.out.cell 1
  have ax2 := HA.out.cell 2
  have ax3 := HA.out.cell 3
  have ax4 := HA.out.cell 4
  have ex0 := HE.out.cell 0
  have ex1 := HE.out.cell 1
  have ex2 := HE.out.cell 2
  have la0 : ∀ ob, (W0.alloc ob).cell? ⟨w.heap.size, 0, none⟩ = some (.string na) := fun ob => (HA.out.after_alloc ob).cell 0
  have la1 : ∀ ob, (W0.alloc ob).cell? ⟨w.heap.size, 1, none⟩ = some (.int .u8 (o : Int)) := fun ob => (HA.out.after_alloc ob).cell 1
  have la2 : ∀ ob, (W0.alloc ob).cell? ⟨w.heap.size, 2, none⟩ = some (.int .i64 n) := fun ob => (HA.out.after_alloc ob).cell 2
  have la3 : ∀ ob, (W0.alloc ob).cell? ⟨w.heap.size, 3, none⟩ = some (.string v) := fun ob => (HA.out.after_alloc ob).cell 3
  have la4 : ∀ ob, (W0.alloc ob).cell? ⟨w.heap.size, 4, none⟩ = some (.string r) := fun ob => (HA.out.after_alloc ob).cell 4
  have le0 : ∀ ob, (W0.alloc ob).cell? ⟨w.heap.size + 1, 0, none⟩ = some (.int .i64 l) := fun ob => (HE.out.after_alloc ob).cell 0
  have le1 : ∀ ob, (W0.alloc ob).cell? ⟨w.heap.size + 1, 1, none⟩ = some (.string y) := fun ob => (HE.out.after_alloc ob).cell 1
  have le2 : ∀ ob, (W0.alloc ob).cell? ⟨w.heap.size + 1, 2, none⟩ = some (.string z) := fun ob => (HE.out.after_alloc ob).cell 2
  rw [rounds_succ]
  go_wp2_with (first
    | (go_at_call 20; with_reducible refine (X0 _).mono ?_; rintro e w6 ⟨rfl, hk6⟩; have HA := Lib.hid (hk6.box (HA.out.after_alloc _) (fun h => h)); have HE := Lib.hid (hk6.box (HE.out.after_alloc _) (fun h => h)); have HI := Lib.hid (hk6.box (HI.out.after_alloc _) (fun h => h)); have ix0 := HI.out.cell 0; have if0 := HI.out.free 0; have ix1 := HI.out.cell 1; have if1 := HI.out.free 1; have ix2 := HI.out.cell 2; have if2 := HI.out.free 2; have HK := Lib.hid (Kept.trans (HK.out.alloc _) hk6 (fun _ _ h => h)); clear hk6)
    | fail)
  have bA : Box (w6.setCell ⟨gI, 0, none⟩ (.bool false)) w.heap.size 31 #[.string na, .int .u8 (o : Int), .int .i64 n, .string v, .string r] := box_apart HA.out (show w.heap.size ≠ gI by omega) _
  have bE : Box (w6.setCell ⟨gI, 0, none⟩ (.bool false)) (w.heap.size + 1) 29 #[.int .i64 l, .string y, .string z] := box_apart HE.out (show w.heap.size + 1 ≠ gI by omega) _
  have bI : Box (w6.setCell ⟨gI, 0, none⟩ (.bool false)) gI 41 #[.bool false, .bool false, .bool false] := HI.out.stored 0 _
  have bK : Kept (fun _ => False) w (w6.setCell ⟨gI, 0, none⟩ (.bool false)) := HK.out.setCell (p := ⟨gI, 0, none⟩) (.inr (by show w.heap.size ≤ gI; omega)) _
  generalize (w6.setCell ⟨gI, 0, none⟩ (.bool false)) = W1 at bA bE bI bK ⊢
  have HA := Lib.hid bA
  have HE := Lib.hid bE
  have HI := Lib.hid bI
  have HK := Lib.hid bK
  clear bA bE bI bK
  have ax0 := HA.out.cell 0
  have ax1 := HA.out.cell 1
  have ax2 := HA.out.cell 2
  have ax3 := HA.out.cell 3
  have ax4 := HA.out.cell 4
  have ex0 := HE.out.cell 0
  have ex1 := HE.out.cell 1
  have ex2 := HE.out.cell 2
  have la0 : ∀ ob, (W1.alloc ob).cell? ⟨w.heap.size, 0, none⟩ = some (.string na) := fun ob => (HA.out.after_alloc ob).cell 0
  have la1 : ∀ ob, (W1.alloc ob).cell? ⟨w.heap.size, 1, none⟩ = some (.int .u8 (o : Int)) := fun ob => (HA.out.after_alloc ob).cell 1
  have la2 : ∀ ob, (W1.alloc ob).cell? ⟨w.heap.size, 2, none⟩ = some (.int .i64 n) := fun ob => (HA.out.after_alloc ob).cell 2
  have la3 : ∀ ob, (W1.alloc ob).cell? ⟨w.heap.size, 3, none⟩ = some (.string v) := fun ob => (HA.out.after_alloc ob).cell 3
  have la4 : ∀ ob, (W1.alloc ob).cell? ⟨w.heap.size, 4, none⟩ = some (.string r) := fun ob => (HA.out.after_alloc ob).cell 4
  have le0 : ∀ ob, (W1.alloc ob).cell? ⟨w.heap.size + 1, 0, none⟩ = some (.int .i64 l) := fun ob => (HE.out.after_alloc ob).cell 0
  have le1 : ∀ ob, (W1.alloc ob).cell? ⟨w.heap.size + 1, 1, none⟩ = some (.string y) := fun ob => (HE.out.after_alloc ob).cell 1
  have le2 : ∀ ob, (W1.alloc ob).cell? ⟨w.heap.size + 1, 2, none⟩ = some (.string z) := fun ob => (HE.out.after_alloc ob).cell 2
  rw [rounds_succ]
  go_wp2_with (first
    | (go_at_call 20; with_reducible refine (X1 _).mono ?_; rintro e w6 ⟨rfl, hk6⟩; have HA := Lib.hid (hk6.box (HA.out.after_alloc _) (fun h => h)); have HE := Lib.hid (hk6.box (HE.out.after_alloc _) (fun h => h)); have HI := Lib.hid (hk6.box (HI.out.after_alloc _) (fun h => h)); have ix0 := HI.out.cell 0; have if0 := HI.out.free 0; have ix1 := HI.out.cell 1; have if1 := HI.out.free 1; have ix2 := HI.out.cell 2; have if2 := HI.out.free 2; have HK := Lib.hid (Kept.trans (HK.out.alloc _) hk6 (fun _ _ h => h)); clear hk6)
    | fail)
  have bA : Box (w6.setCell ⟨gI, 1, none⟩ (.bool false)) w.heap.size 31 #[.string na, .int .u8 (o : Int), .int .i64 n, .string v, .string r] := box_apart HA.out (show w.heap.size ≠ gI by omega) _
  have bE : Box (w6.setCell ⟨gI, 1, none⟩ (.bool false)) (w.heap.size + 1) 29 #[.int .i64 l, .string y, .string z] := box_apart HE.out (show w.heap.size + 1 ≠ gI by omega) _
  have bI : Box (w6.setCell ⟨gI, 1, none⟩ (.bool false)) gI 41 #[.bool false, .bool false, .bool false] := HI.out.stored 1 _
  have bK : Kept (fun _ => False) w (w6.setCell ⟨gI, 1, none⟩ (.bool false)) := HK.out.setCell (p := ⟨gI, 1, none⟩) (.inr (by show w.heap.size ≤ gI; omega)) _
  generalize (w6.setCell ⟨gI, 1, none⟩ (.bool false)) = W2 at bA bE bI bK ⊢
  have HA := Lib.hid bA
  have HE := Lib.hid bE
  have HI := Lib.hid bI
  have HK := Lib.hid bK
  clear bA bE bI bK
  have ax0 := HA.out.cell 0
  have ax1 := HA.out.cell 1
  have ax2 := HA.out.cell 2
  have ax3 := HA.out.cell 3
  have ax4 := HA.out.cell 4
  have ex0 := HE.out.cell 0
  have ex1 := HE.out.cell 1
  have ex2 := HE.out.cell 2
  have la0 : ∀ ob, (W2.alloc ob).cell? ⟨w.heap.size, 0, none⟩ = some (.string na) := fun ob => (HA.out.after_alloc ob).cell 0
  have la1 : ∀ ob, (W2.alloc ob).cell? ⟨w.heap.size, 1, none⟩ = some (.int .u8 (o : Int)) := fun ob => (HA.out.after_alloc ob).cell 1
  have la2 : ∀ ob, (W2.alloc ob).cell? ⟨w.heap.size, 2, none⟩ = some (.int .i64 n) := fun ob => (HA.out.after_alloc ob).cell 2
  have la3 : ∀ ob, (W2.alloc ob).cell? ⟨w.heap.size, 3, none⟩ = some (.string v) := fun ob => (HA.out.after_alloc ob).cell 3
  have la4 : ∀ ob, (W2.alloc ob).cell? ⟨w.heap.size, 4, none⟩ = some (.string r) := fun ob => (HA.out.after_alloc ob).cell 4
  have le0 : ∀ ob, (W2.alloc ob).cell? ⟨w.heap.size + 1, 0, none⟩ = some (.int .i64 l) := fun ob => (HE.out.after_alloc ob).cell 0
  have le1 : ∀ ob, (W2.alloc ob).cell? ⟨w.heap.size + 1, 1, none⟩ = some (.string y) := fun ob => (HE.out.after_alloc ob).cell 1
  have le2 : ∀ ob, (W2.alloc ob).cell? ⟨w.heap.size + 1, 2, none⟩ = some (.string z) := fun ob => (HE.out.after_alloc ob).cell 2
  rw [rounds_succ]
  go_wp2_with (first
    | (go_at_call 20; with_reducible refine (X2 _).mono ?_; rintro e w6 ⟨rfl, hk6⟩; have HA := Lib.hid (hk6.box (HA.out.after_alloc _) (fun h => h)); have HE := Lib.hid (hk6.box (HE.out.after_alloc _) (fun h => h)); have HI := Lib.hid (hk6.box (HI.out.after_alloc _) (fun h => h)); have ix0 := HI.out.cell 0; have if0 := HI.out.free 0; have ix1 := HI.out.cell 1; have if1 := HI.out.free 1; have ix2 := HI.out.cell 2; have if2 := HI.out.free 2; have HK := Lib.hid (Kept.trans (HK.out.alloc _) hk6 (fun _ _ h => h)); clear hk6)
    | fail)
  have bA : Box (w6.setCell ⟨gI, 2, none⟩ (.bool true)) w.heap.size 31 #[.string na, .int .u8 (o : Int), .int .i64 n, .string v, .string r] := box_apart HA.out (show w.heap.size ≠ gI by omega) _
  have bE : Box (w6.setCell ⟨gI, 2, none⟩ (.bool true)) (w.heap.size + 1) 29 #[.int .i64 l, .string y, .string z] := box_apart HE.out (show w.heap.size + 1 ≠ gI by omega) _
  have bI : Box (w6.setCell ⟨gI, 2, none⟩ (.bool true)) gI 41 #[.bool false, .bool false, .bool true] := HI.out.stored 2 _
  have bK : Kept (fun _ => False) w (w6.setCell ⟨gI, 2, none⟩ (.bool true)) := HK.out.setCell (p := ⟨gI, 2, none⟩) (.inr (by show w.heap.size ≤ gI; omega)) _
  generalize (w6.setCell ⟨gI, 2, none⟩ (.bool true)) = W3 at bA bE bI bK ⊢
  have HA := Lib.hid bA
  have HE := Lib.hid bE
  have HI := Lib.hid bI
  have HK := Lib.hid bK
  clear bA bE bI bK
  have ax0 := HA.out.cell 0
  have ax1 := HA.out.cell 1
  have ax2 := HA.out.cell 2
  have ax3 := HA.out.cell 3
  have ax4 := HA.out.cell 4
  have ex0 := HE.out.cell 0
  have ex1 := HE.out.cell 1
  have ex2 := HE.out.cell 2
  have szA := HA.out.lt
  have szE := HE.out.lt
  have szI := HI.out.lt
  have neA := Nat.ne_of_lt szA
  have neA' : ¬ w.heap.size = W3.heap.size + 1 := by omega
  rw [rounds_succ]
  go_wp2_with fail
  go_region
  · have bP : Box ((W3.alloc (.cells #[.string na, .int .u8 (o : Int), .int .i64 n, .string v, .string r] 31)).alloc (.cells #[.string na, .int .u8 (o : Int), .int .i64 n, .string v, .string r] 31)).drew W3.heap.size 31 #[.string na, .int .u8 (o : Int), .int .i64 n, .string v, .string r] := (Box.made W3 _ _).after_alloc _
    have bQ : Box ((W3.alloc (.cells #[.string na, .int .u8 (o : Int), .int .i64 n, .string v, .string r] 31)).alloc (.cells #[.string na, .int .u8 (o : Int), .int .i64 n, .string v, .string r] 31)).drew (W3.heap.size + 1) 31 #[.string na, .int .u8 (o : Int), .int .i64 n, .string v, .string r] := by
      have h := Box.made (W3.alloc (.cells #[.string na, .int .u8 (o : Int), .int .i64 n, .string v, .string r] 31)) 31 #[.string na, .int .u8 (o : Int), .int .i64 n, .string v, .string r]
      rw [World.size_alloc] at h
      exact h
    have bA : Box ((W3.alloc (.cells #[.string na, .int .u8 (o : Int), .int .i64 n, .string v, .string r] 31)).alloc (.cells #[.string na, .int .u8 (o : Int), .int .i64 n, .string v, .string r] 31)).drew w.heap.size 31 #[.string na, .int .u8 (o : Int), .int .i64 n, .string v, .string r] := (HA.out.after_alloc _).after_alloc _
    have bE : Box ((W3.alloc (.cells #[.string na, .int .u8 (o : Int), .int .i64 n, .string v, .string r] 31)).alloc (.cells #[.string na, .int .u8 (o : Int), .int .i64 n, .string v, .string r] 31)).drew (w.heap.size + 1) 29 #[.int .i64 l, .string y, .string z] := (HE.out.after_alloc _).after_alloc _
    have bI : Box ((W3.alloc (.cells #[.string na, .int .u8 (o : Int), .int .i64 n, .string v, .string r] 31)).alloc (.cells #[.string na, .int .u8 (o : Int), .int .i64 n, .string v, .string r] 31)).drew gI 41 #[.bool false, .bool false, .bool true] := (HI.out.after_alloc _).after_alloc _
    have bK : Kept (fun _ => False) w ((W3.alloc (.cells #[.string na, .int .u8 (o : Int), .int .i64 n, .string v, .string r] 31)).alloc (.cells #[.string na, .int .u8 (o : Int), .int .i64 n, .string v, .string r] 31)).drew := ((HK.out.alloc _).alloc _).drew
    generalize ((W3.alloc (.cells #[.string na, .int .u8 (o : Int), .int .i64 n, .string v, .string r] 31)).alloc (.cells #[.string na, .int .u8 (o : Int), .int .i64 n, .string v, .string r] 31)).drew = W4 at bA bE bI bP bQ bK ⊢
    have zP : gI < W3.heap.size := by omega
    have zQ : gI < W3.heap.size + 1 := by omega
    have hPQ : W3.heap.size ≠ W3.heap.size + 1 := by omega
    clear szA szE szI neA neA'
    generalize W3.heap.size + 1 = Q at bQ zQ hPQ ⊢
    generalize W3.heap.size = P at bP zP hPQ ⊢
    have px1 : W4.cell? ⟨P, 1, none⟩ = some (.int .u8 (o : Int)) := bP.cell 1
    have qx1 : W4.cell? ⟨Q, 1, none⟩ = some (.int .u8 (o : Int)) := bQ.cell 1
    have pf := bP.free 1
    have qf := bQ.free 1
    have hQP := Ne.symm hPQ
    have HA := Lib.hid bA
    have HE := Lib.hid bE
    have HI := Lib.hid bI
    have HP := Lib.hid bP
    have HQ := Lib.hid bQ
    have HK := Lib.hid bK
    clear bA bE bI bP bQ bK
    go_wp2_with fail
    have bA : Box ((W4.setCell ⟨P, 1, none⟩ (.int .u8 3)).setCell ⟨Q, 1, none⟩ (.int .u8 6)) w.heap.size 31 #[.string na, .int .u8 (o : Int), .int .i64 n, .string v, .string r] := box_apart (box_apart HA.out (show w.heap.size ≠ P by omega) _) (show w.heap.size ≠ Q by omega) _
    have bE : Box ((W4.setCell ⟨P, 1, none⟩ (.int .u8 3)).setCell ⟨Q, 1, none⟩ (.int .u8 6)) (w.heap.size + 1) 29 #[.int .i64 l, .string y, .string z] := box_apart (box_apart HE.out (show (w.heap.size + 1) ≠ P by omega) _) (show (w.heap.size + 1) ≠ Q by omega) _
    have bI : Box ((W4.setCell ⟨P, 1, none⟩ (.int .u8 3)).setCell ⟨Q, 1, none⟩ (.int .u8 6)) gI 41 #[.bool false, .bool false, .bool true] := box_apart (box_apart HI.out (show gI ≠ P by omega) _) (show gI ≠ Q by omega) _
    have bP : Box ((W4.setCell ⟨P, 1, none⟩ (.int .u8 3)).setCell ⟨Q, 1, none⟩ (.int .u8 6)) P 31 #[.string na, .int .u8 (3), .int .i64 n, .string v, .string r] := box_apart (HP.out.stored 1 _) hPQ _
    have bQ : Box ((W4.setCell ⟨P, 1, none⟩ (.int .u8 3)).setCell ⟨Q, 1, none⟩ (.int .u8 6)) Q 31 #[.string na, .int .u8 (6), .int .i64 n, .string v, .string r] := (box_apart HQ.out hQP _).stored 1 _
    have bK : Kept (fun _ => False) w ((W4.setCell ⟨P, 1, none⟩ (.int .u8 3)).setCell ⟨Q, 1, none⟩ (.int .u8 6)) := (HK.out.setCell (p := ⟨P, 1, none⟩) (.inr (by show w.heap.size ≤ P; omega)) _).setCell (p := ⟨Q, 1, none⟩) (.inr (by show w.heap.size ≤ Q; omega)) _
    generalize ((W4.setCell ⟨P, 1, none⟩ (.int .u8 3)).setCell ⟨Q, 1, none⟩ (.int .u8 6)) = W5 at bA bE bI bP bQ bK ⊢
    have HA := Lib.hid bA
    have HE := Lib.hid bE
    have HI := Lib.hid bI
    have HP := Lib.hid bP
    have HQ := Lib.hid bQ
    have HK := Lib.hid bK
    clear bA bE bI bP bQ bK px1 qx1 pf qf
    obtain ⟨T, F, t0, ht0, hFk, hFs⟩ := class_of W5
    have qa0 : ∀ t, (F t).cell? ⟨w.heap.size, 0, none⟩ = some (.string na) := fun t => ((hFk t).box HA.out (fun h => h)).cell 0
    have qa1 : ∀ t, (F t).cell? ⟨w.heap.size, 1, none⟩ = some (.int .u8 (o : Int)) := fun t => ((hFk t).box HA.out (fun h => h)).cell 1
    have qa2 : ∀ t, (F t).cell? ⟨w.heap.size, 2, none⟩ = some (.int .i64 n) := fun t => ((hFk t).box HA.out (fun h => h)).cell 2
    have qa3 : ∀ t, (F t).cell? ⟨w.heap.size, 3, none⟩ = some (.string v) := fun t => ((hFk t).box HA.out (fun h => h)).cell 3
    have qa4 : ∀ t, (F t).cell? ⟨w.heap.size, 4, none⟩ = some (.string r) := fun t => ((hFk t).box HA.out (fun h => h)).cell 4
    have qe0 : ∀ t, (F t).cell? ⟨w.heap.size + 1, 0, none⟩ = some (.int .i64 l) := fun t => ((hFk t).box HE.out (fun h => h)).cell 0
    have qe1 : ∀ t, (F t).cell? ⟨w.heap.size + 1, 1, none⟩ = some (.string y) := fun t => ((hFk t).box HE.out (fun h => h)).cell 1
    have qe2 : ∀ t, (F t).cell? ⟨w.heap.size + 1, 2, none⟩ = some (.string z) := fun t => ((hFk t).box HE.out (fun h => h)).cell 2
    have qi0 : ∀ t, (F t).cell? ⟨gI, 0, none⟩ = some (.bool false) := fun t => ((hFk t).box HI.out (fun h => h)).cell 0
    have qi1 : ∀ t, (F t).cell? ⟨gI, 1, none⟩ = some (.bool false) := fun t => ((hFk t).box HI.out (fun h => h)).cell 1
    have qi2 : ∀ t, (F t).cell? ⟨gI, 2, none⟩ = some (.bool true) := fun t => ((hFk t).box HI.out (fun h => h)).cell 2
    have qp0 : ∀ t, (F t).cell? ⟨P, 0, none⟩ = some (.string na) := fun t => ((hFk t).box HP.out (fun h => h)).cell 0
    have qp1 : ∀ t, (F t).cell? ⟨P, 1, none⟩ = some (.int .u8 (3)) := fun t => ((hFk t).box HP.out (fun h => h)).cell 1
    have qp2 : ∀ t, (F t).cell? ⟨P, 2, none⟩ = some (.int .i64 n) := fun t => ((hFk t).box HP.out (fun h => h)).cell 2
    have qp3 : ∀ t, (F t).cell? ⟨P, 3, none⟩ = some (.string v) := fun t => ((hFk t).box HP.out (fun h => h)).cell 3
    have qp4 : ∀ t, (F t).cell? ⟨P, 4, none⟩ = some (.string r) := fun t => ((hFk t).box HP.out (fun h => h)).cell 4
    have qq0 : ∀ t, (F t).cell? ⟨Q, 0, none⟩ = some (.string na) := fun t => ((hFk t).box HQ.out (fun h => h)).cell 0
    have qq1 : ∀ t, (F t).cell? ⟨Q, 1, none⟩ = some (.int .u8 (6)) := fun t => ((hFk t).box HQ.out (fun h => h)).cell 1
    have qq2 : ∀ t, (F t).cell? ⟨Q, 2, none⟩ = some (.int .i64 n) := fun t => ((hFk t).box HQ.out (fun h => h)).cell 2
    have qq3 : ∀ t, (F t).cell? ⟨Q, 3, none⟩ = some (.string v) := fun t => ((hFk t).box HQ.out (fun h => h)).cell 3
    have qq4 : ∀ t, (F t).cell? ⟨Q, 4, none⟩ = some (.string r) := fun t => ((hFk t).box HQ.out (fun h => h)).cell 4
    have HFK := Lib.hid hFk
    have HFS := Lib.hid hFs
    clear hFk hFs
    have hne : Nonempty T := ⟨t0⟩
    refine wp_region_class F t0 ht0 (by kernel_rfl) (by kernel_rfl) ?_
    repeat (go_big_quiet_step (first
      | (go_at_call 20; (first | with_reducible exact class_call HFS.out (XL _) | with_reducible exact class_call HFS.out (XH _)))
      | (go_at_call 22; (first | with_reducible exact class_call HFS.out (CC _)))))
    refine wpQuiet_nil ?_
    rintro _ ⟨tz, rfl⟩
    have hkz := HK.out.trans (HFK.out tz) (fun _ _ h => h)
    go_wp2_with fail
    go_ret
    exact ⟨rfl, hkz⟩
  · have bQ : Box ((W3.alloc (.cells #[.string na, .int .u8 (o : Int), .int .i64 n, .string v, .string r] 31)).alloc (.cells #[.string na, .int .u8 (o : Int), .int .i64 n, .string v, .string r] 31)).drew W3.heap.size 31 #[.string na, .int .u8 (o : Int), .int .i64 n, .string v, .string r] := (Box.made W3 _ _).after_alloc _
    have bP : Box ((W3.alloc (.cells #[.string na, .int .u8 (o : Int), .int .i64 n, .string v, .string r] 31)).alloc (.cells #[.string na, .int .u8 (o : Int), .int .i64 n, .string v, .string r] 31)).drew (W3.heap.size + 1) 31 #[.string na, .int .u8 (o : Int), .int .i64 n, .string v, .string r] := by
      have h := Box.made (W3.alloc (.cells #[.string na, .int .u8 (o : Int), .int .i64 n, .string v, .string r] 31)) 31 #[.string na, .int .u8 (o : Int), .int .i64 n, .string v, .string r]
      rw [World.size_alloc] at h
      exact h
    have bA : Box ((W3.alloc (.cells #[.string na, .int .u8 (o : Int), .int .i64 n, .string v, .string r] 31)).alloc (.cells #[.string na, .int .u8 (o : Int), .int .i64 n, .string v, .string r] 31)).drew w.heap.size 31 #[.string na, .int .u8 (o : Int), .int .i64 n, .string v, .string r] := (HA.out.after_alloc _).after_alloc _
    have bE : Box ((W3.alloc (.cells #[.string na, .int .u8 (o : Int), .int .i64 n, .string v, .string r] 31)).alloc (.cells #[.string na, .int .u8 (o : Int), .int .i64 n, .string v, .string r] 31)).drew (w.heap.size + 1) 29 #[.int .i64 l, .string y, .string z] := (HE.out.after_alloc _).after_alloc _
    have bI : Box ((W3.alloc (.cells #[.string na, .int .u8 (o : Int), .int .i64 n, .string v, .string r] 31)).alloc (.cells #[.string na, .int .u8 (o : Int), .int .i64 n, .string v, .string r] 31)).drew gI 41 #[.bool false, .bool false, .bool true] := (HI.out.after_alloc _).after_alloc _
    have bK : Kept (fun _ => False) w ((W3.alloc (.cells #[.string na, .int .u8 (o : Int), .int .i64 n, .string v, .string r] 31)).alloc (.cells #[.string na, .int .u8 (o : Int), .int .i64 n, .string v, .string r] 31)).drew := ((HK.out.alloc _).alloc _).drew
    generalize ((W3.alloc (.cells #[.string na, .int .u8 (o : Int), .int .i64 n, .string v, .string r] 31)).alloc (.cells #[.string na, .int .u8 (o : Int), .int .i64 n, .string v, .string r] 31)).drew = W4 at bA bE bI bP bQ bK ⊢
    have zP : gI < W3.heap.size + 1 := by omega
    have zQ : gI < W3.heap.size := by omega
    have hPQ : W3.heap.size + 1 ≠ W3.heap.size := by omega
    clear szA szE szI neA neA'
    generalize W3.heap.size + 1 = P at bP zP hPQ ⊢
    generalize W3.heap.size = Q at bQ zQ hPQ ⊢
    have px1 : W4.cell? ⟨P, 1, none⟩ = some (.int .u8 (o : Int)) := bP.cell 1
    have qx1 : W4.cell? ⟨Q, 1, none⟩ = some (.int .u8 (o : Int)) := bQ.cell 1
    have pf := bP.free 1
    have qf := bQ.free 1
    have hQP := Ne.symm hPQ
    have HA := Lib.hid bA
    have HE := Lib.hid bE
    have HI := Lib.hid bI
    have HP := Lib.hid bP
    have HQ := Lib.hid bQ
    have HK := Lib.hid bK
    clear bA bE bI bP bQ bK
    go_wp2_with fail
    have bA : Box ((W4.setCell ⟨P, 1, none⟩ (.int .u8 3)).setCell ⟨Q, 1, none⟩ (.int .u8 6)) w.heap.size 31 #[.string na, .int .u8 (o : Int), .int .i64 n, .string v, .string r] := box_apart (box_apart HA.out (show w.heap.size ≠ P by omega) _) (show w.heap.size ≠ Q by omega) _
    have bE : Box ((W4.setCell ⟨P, 1, none⟩ (.int .u8 3)).setCell ⟨Q, 1, none⟩ (.int .u8 6)) (w.heap.size + 1) 29 #[.int .i64 l, .string y, .string z] := box_apart (box_apart HE.out (show (w.heap.size + 1) ≠ P by omega) _) (show (w.heap.size + 1) ≠ Q by omega) _
    have bI : Box ((W4.setCell ⟨P, 1, none⟩ (.int .u8 3)).setCell ⟨Q, 1, none⟩ (.int .u8 6)) gI 41 #[.bool false, .bool false, .bool true] := box_apart (box_apart HI.out (show gI ≠ P by omega) _) (show gI ≠ Q by omega) _
    have bP : Box ((W4.setCell ⟨P, 1, none⟩ (.int .u8 3)).setCell ⟨Q, 1, none⟩ (.int .u8 6)) P 31 #[.string na, .int .u8 (3), .int .i64 n, .string v, .string r] := box_apart (HP.out.stored 1 _) hPQ _
    have bQ : Box ((W4.setCell ⟨P, 1, none⟩ (.int .u8 3)).setCell ⟨Q, 1, none⟩ (.int .u8 6)) Q 31 #[.string na, .int .u8 (6), .int .i64 n, .string v, .string r] := (box_apart HQ.out hQP _).stored 1 _
    have bK : Kept (fun _ => False) w ((W4.setCell ⟨P, 1, none⟩ (.int .u8 3)).setCell ⟨Q, 1, none⟩ (.int .u8 6)) := (HK.out.setCell (p := ⟨P, 1, none⟩) (.inr (by show w.heap.size ≤ P; omega)) _).setCell (p := ⟨Q, 1, none⟩) (.inr (by show w.heap.size ≤ Q; omega)) _
    generalize ((W4.setCell ⟨P, 1, none⟩ (.int .u8 3)).setCell ⟨Q, 1, none⟩ (.int .u8 6)) = W5 at bA bE bI bP bQ bK ⊢
    have HA := Lib.hid bA
    have HE := Lib.hid bE
    have HI := Lib.hid bI
    have HP := Lib.hid bP
    have HQ := Lib.hid bQ
    have HK := Lib.hid bK
    clear bA bE bI bP bQ bK px1 qx1 pf qf
    obtain ⟨T, F, t0, ht0, hFk, hFs⟩ := class_of W5
    have qa0 : ∀ t, (F t).cell? ⟨w.heap.size, 0, none⟩ = some (.string na) := fun t => ((hFk t).box HA.out (fun h => h)).cell 0
    have qa1 : ∀ t, (F t).cell? ⟨w.heap.size, 1, none⟩ = some (.int .u8 (o : Int)) := fun t => ((hFk t).box HA.out (fun h => h)).cell 1
    have qa2 : ∀ t, (F t).cell? ⟨w.heap.size, 2, none⟩ = some (.int .i64 n) := fun t => ((hFk t).box HA.out (fun h => h)).cell 2
    have qa3 : ∀ t, (F t).cell? ⟨w.heap.size, 3, none⟩ = some (.string v) := fun t => ((hFk t).box HA.out (fun h => h)).cell 3
    have qa4 : ∀ t, (F t).cell? ⟨w.heap.size, 4, none⟩ = some (.string r) := fun t => ((hFk t).box HA.out (fun h => h)).cell 4
    have qe0 : ∀ t, (F t).cell? ⟨w.heap.size + 1, 0, none⟩ = some (.int .i64 l) := fun t => ((hFk t).box HE.out (fun h => h)).cell 0
    have qe1 : ∀ t, (F t).cell? ⟨w.heap.size + 1, 1, none⟩ = some (.string y) := fun t => ((hFk t).box HE.out (fun h => h)).cell 1
    have qe2 : ∀ t, (F t).cell? ⟨w.heap.size + 1, 2, none⟩ = some (.string z) := fun t => ((hFk t).box HE.out (fun h => h)).cell 2
    have qi0 : ∀ t, (F t).cell? ⟨gI, 0, none⟩ = some (.bool false) := fun t => ((hFk t).box HI.out (fun h => h)).cell 0
    have qi1 : ∀ t, (F t).cell? ⟨gI, 1, none⟩ = some (.bool false) := fun t => ((hFk t).box HI.out (fun h => h)).cell 1
    have qi2 : ∀ t, (F t).cell? ⟨gI, 2, none⟩ = some (.bool true) := fun t => ((hFk t).box HI.out (fun h => h)).cell 2
    have qp0 : ∀ t, (F t).cell? ⟨P, 0, none⟩ = some (.string na) := fun t => ((hFk t).box HP.out (fun h => h)).cell 0
    have qp1 : ∀ t, (F t).cell? ⟨P, 1, none⟩ = some (.int .u8 (3)) := fun t => ((hFk t).box HP.out (fun h => h)).cell 1
    have qp2 : ∀ t, (F t).cell? ⟨P, 2, none⟩ = some (.int .i64 n) := fun t => ((hFk t).box HP.out (fun h => h)).cell 2
    have qp3 : ∀ t, (F t).cell? ⟨P, 3, none⟩ = some (.string v) := fun t => ((hFk t).box HP.out (fun h => h)).cell 3
    have qp4 : ∀ t, (F t).cell? ⟨P, 4, none⟩ = some (.string r) := fun t => ((hFk t).box HP.out (fun h => h)).cell 4
    have qq0 : ∀ t, (F t).cell? ⟨Q, 0, none⟩ = some (.string na) := fun t => ((hFk t).box HQ.out (fun h => h)).cell 0
    have qq1 : ∀ t, (F t).cell? ⟨Q, 1, none⟩ = some (.int .u8 (6)) := fun t => ((hFk t).box HQ.out (fun h => h)).cell 1
    have qq2 : ∀ t, (F t).cell? ⟨Q, 2, none⟩ = some (.int .i64 n) := fun t => ((hFk t).box HQ.out (fun h => h)).cell 2
    have qq3 : ∀ t, (F t).cell? ⟨Q, 3, none⟩ = some (.string v) := fun t => ((hFk t).box HQ.out (fun h => h)).cell 3
    have qq4 : ∀ t, (F t).cell? ⟨Q, 4, none⟩ = some (.string r) := fun t => ((hFk t).box HQ.out (fun h => h)).cell 4
    have HFK := Lib.hid hFk
    have HFS := Lib.hid hFs
    clear hFk hFs
    have hne : Nonempty T := ⟨t0⟩
    refine wp_region_class F t0 ht0 (by kernel_rfl) (by kernel_rfl) ?_
    repeat (go_big_quiet_step (first
      | (go_at_call 20; (first | with_reducible exact class_call HFS.out (XL _) | with_reducible exact class_call HFS.out (XH _)))
      | (go_at_call 22; (first | with_reducible exact class_call HFS.out (CC _)))))
    refine wpQuiet_nil ?_
    rintro _ ⟨tz, rfl⟩
    have hkz := HK.out.trans (HFK.out tz) (fun _ _ h => h)
    go_wp2_with fail
    go_ret
    exact ⟨rfl, hkz⟩
end Go.Proofs.YtjjjelgjjdgldaaDoor
