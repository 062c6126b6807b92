/-
  The walk over the law SpanEither. Conditions: as each theorem states.
-/
import Derived.Test.YtjjjelgjjdgldaaDoorFace04
namespace Go.Proofs.YtjjjelgjjdgldaaDoor
open Go.RowKit Span Evr

set_option maxRecDepth 100000 in
set_option maxHeartbeats 2000000 in
theorem spaneither_longA (na : ByteArray) (o : Nat) (n : Int) (v r : ByteArray) (nb : ByteArray) (k : Nat) (m : Int) (u x : ByteArray) (s : ByteArray) (w : World) (hA : ∀ W : World, Calls Tryd.prog 17 #[.agg #[.int .i64 n, .string v, .string r]] W fun e w' => e = .returned (.bool true) ∧ Kept (fun _ => False) W w') : Calls Tryd.prog 6 #[.agg #[.string na, .int .u8 (o : Int), .int .i64 n, .string v, .string r], .agg #[.string nb, .int .u8 (k : Int), .int .i64 m, .string u, .string x], .string s] w fun e w' => e = .returned (.bool true) ∧ Kept (fun _ => False) w w' := by
  have hW := awake_walk
  have hk0 : Kept (fun _ => False) w ((w.alloc (.cells #[.string na, .int .u8 (o : Int), .int .i64 n, .string v, .string r] 31)).alloc (.cells #[.string nb, .int .u8 (k : Int), .int .i64 m, .string u, .string x] 31)) := ((Kept.refl _ _).alloc _).alloc _
  have HK := Lib.hid hk0
  have bA := (Box.made w 31 #[.string na, .int .u8 (o : Int), .int .i64 n, .string v, .string r]).after_alloc (.cells #[.string nb, .int .u8 (k : Int), .int .i64 m, .string u, .string x] 31)
  have bB := Box.made (w.alloc (.cells #[.string na, .int .u8 (o : Int), .int .i64 n, .string v, .string r] 31)) 31 #[.string nb, .int .u8 (k : Int), .int .i64 m, .string u, .string x]
  rw [World.size_alloc] at bB
  have HA := Lib.hid bA
  have HB := Lib.hid bB
  clear hk0 bA bB
  go_enter Tryd.func6, Tryd.ntmps6
  go_wp2_with (first
    | (go_at_call 17; (first | with_reducible refine (hA _).mono ?_); rintro e w5 ⟨rfl, hk5⟩; have HA := Lib.hid (hk5.box HA.out (fun h => h)); have HB := Lib.hid (hk5.box HB.out (fun h => h)); have ax0 := HA.out.cell 0; have ax1 := HA.out.cell 1; have ax2 := HA.out.cell 2; have ax3 := HA.out.cell 3; have ax4 := HA.out.cell 4; have bx0 := HB.out.cell 0; have bx1 := HB.out.cell 1; have bx2 := HB.out.cell 2; have bx3 := HB.out.cell 3; have bx4 := HB.out.cell 4; have HK := Lib.hid (Kept.trans HK.out hk5 (fun _ _ h => h)); clear hk5)
    | (go_at_call 10; (first | with_reducible refine (hW _).mono ?_); rintro e w5 ⟨rfl, hk5⟩; have HA := Lib.hid (hk5.box HA.out (fun h => h)); have HB := Lib.hid (hk5.box HB.out (fun h => h)); have ax0 := HA.out.cell 0; have ax1 := HA.out.cell 1; have ax2 := HA.out.cell 2; have ax3 := HA.out.cell 3; have ax4 := HA.out.cell 4; have bx0 := HB.out.cell 0; have bx1 := HB.out.cell 1; have bx2 := HB.out.cell 2; have bx3 := HB.out.cell 3; have bx4 := HB.out.cell 4; have HK := Lib.hid (Kept.trans HK.out hk5 (fun _ _ h => h)); clear hk5)
    | fail)
  all_goals go_ret
  all_goals exact ⟨rfl, HK.out⟩
set_option maxRecDepth 100000 in
set_option maxHeartbeats 2000000 in
theorem spaneither_longB (na : ByteArray) (o : Nat) (n : Int) (v r : ByteArray) (nb : ByteArray) (k : Nat) (m : Int) (u x : ByteArray) (s : ByteArray) (w : World) (hA : ∀ W : World, Calls Tryd.prog 17 #[.agg #[.int .i64 n, .string v, .string r]] W fun e w' => e = .returned (.bool false) ∧ Kept (fun _ => False) W w') (hB : ∀ W : World, Calls Tryd.prog 17 #[.agg #[.int .i64 m, .string u, .string x]] W fun e w' => e = .returned (.bool true) ∧ Kept (fun _ => False) W w') : Calls Tryd.prog 6 #[.agg #[.string na, .int .u8 (o : Int), .int .i64 n, .string v, .string r], .agg #[.string nb, .int .u8 (k : Int), .int .i64 m, .string u, .string x], .string s] w fun e w' => e = .returned (.bool true) ∧ Kept (fun _ => False) w w' := by
  have hW := awake_walk
  have hk0 : Kept (fun _ => False) w ((w.alloc (.cells #[.string na, .int .u8 (o : Int), .int .i64 n, .string v, .string r] 31)).alloc (.cells #[.string nb, .int .u8 (k : Int), .int .i64 m, .string u, .string x] 31)) := ((Kept.refl _ _).alloc _).alloc _
  have HK := Lib.hid hk0
  have bA := (Box.made w 31 #[.string na, .int .u8 (o : Int), .int .i64 n, .string v, .string r]).after_alloc (.cells #[.string nb, .int .u8 (k : Int), .int .i64 m, .string u, .string x] 31)
  have bB := Box.made (w.alloc (.cells #[.string na, .int .u8 (o : Int), .int .i64 n, .string v, .string r] 31)) 31 #[.string nb, .int .u8 (k : Int), .int .i64 m, .string u, .string x]
  rw [World.size_alloc] at bB
  have HA := Lib.hid bA
  have HB := Lib.hid bB
  clear hk0 bA bB
  go_enter Tryd.func6, Tryd.ntmps6
  go_wp2_with (first
    | (go_at_call 17; (first | with_reducible refine (hA _).mono ?_ | with_reducible refine (hB _).mono ?_); rintro e w5 ⟨rfl, hk5⟩; have HA := Lib.hid (hk5.box HA.out (fun h => h)); have HB := Lib.hid (hk5.box HB.out (fun h => h)); have ax0 := HA.out.cell 0; have ax1 := HA.out.cell 1; have ax2 := HA.out.cell 2; have ax3 := HA.out.cell 3; have ax4 := HA.out.cell 4; have bx0 := HB.out.cell 0; have bx1 := HB.out.cell 1; have bx2 := HB.out.cell 2; have bx3 := HB.out.cell 3; have bx4 := HB.out.cell 4; have HK := Lib.hid (Kept.trans HK.out hk5 (fun _ _ h => h)); clear hk5)
    | (go_at_call 10; (first | with_reducible refine (hW _).mono ?_); rintro e w5 ⟨rfl, hk5⟩; have HA := Lib.hid (hk5.box HA.out (fun h => h)); have HB := Lib.hid (hk5.box HB.out (fun h => h)); have ax0 := HA.out.cell 0; have ax1 := HA.out.cell 1; have ax2 := HA.out.cell 2; have ax3 := HA.out.cell 3; have ax4 := HA.out.cell 4; have bx0 := HB.out.cell 0; have bx1 := HB.out.cell 1; have bx2 := HB.out.cell 2; have bx3 := HB.out.cell 3; have bx4 := HB.out.cell 4; have HK := Lib.hid (Kept.trans HK.out hk5 (fun _ _ h => h)); clear hk5)
    | fail)
  all_goals go_ret
  all_goals exact ⟨rfl, HK.out⟩
set_option maxRecDepth 100000 in
set_option maxHeartbeats 2000000 in
theorem spaneither_name (na : ByteArray) (o : Nat) (n : Int) (v r : ByteArray) (nb : ByteArray) (k : Nat) (m : Int) (u x : ByteArray) (s : ByteArray) (w : World) (hA : ∀ W : World, Calls Tryd.prog 17 #[.agg #[.int .i64 n, .string v, .string r]] W fun e w' => e = .returned (.bool false) ∧ Kept (fun _ => False) W w') (hB : ∀ W : World, Calls Tryd.prog 17 #[.agg #[.int .i64 m, .string u, .string x]] W fun e w' => e = .returned (.bool false) ∧ Kept (fun _ => False) W w') (n1 : (1000 : Int) < (s.size : Int)) : Calls Tryd.prog 6 #[.agg #[.string na, .int .u8 (o : Int), .int .i64 n, .string v, .string r], .agg #[.string nb, .int .u8 (k : Int), .int .i64 m, .string u, .string x], .string s] w fun e w' => e = .returned (.bool true) ∧ Kept (fun _ => False) w w' := by
  have hW := awake_walk
  have hk0 : Kept (fun _ => False) w ((w.alloc (.cells #[.string na, .int .u8 (o : Int), .int .i64 n, .string v, .string r] 31)).alloc (.cells #[.string nb, .int .u8 (k : Int), .int .i64 m, .string u, .string x] 31)) := ((Kept.refl _ _).alloc _).alloc _
  have HK := Lib.hid hk0
  have bA := (Box.made w 31 #[.string na, .int .u8 (o : Int), .int .i64 n, .string v, .string r]).after_alloc (.cells #[.string nb, .int .u8 (k : Int), .int .i64 m, .string u, .string x] 31)
  have bB := Box.made (w.alloc (.cells #[.string na, .int .u8 (o : Int), .int .i64 n, .string v, .string r] 31)) 31 #[.string nb, .int .u8 (k : Int), .int .i64 m, .string u, .string x]
  rw [World.size_alloc] at bB
  have HA := Lib.hid bA
  have HB := Lib.hid bB
  clear hk0 bA bB
  go_enter Tryd.func6, Tryd.ntmps6
  go_wp2_with (first
    | (go_at_call 17; (first | with_reducible refine (hA _).mono ?_ | with_reducible refine (hB _).mono ?_); rintro e w5 ⟨rfl, hk5⟩; have HA := Lib.hid (hk5.box HA.out (fun h => h)); have HB := Lib.hid (hk5.box HB.out (fun h => h)); have ax0 := HA.out.cell 0; have ax1 := HA.out.cell 1; have ax2 := HA.out.cell 2; have ax3 := HA.out.cell 3; have ax4 := HA.out.cell 4; have bx0 := HB.out.cell 0; have bx1 := HB.out.cell 1; have bx2 := HB.out.cell 2; have bx3 := HB.out.cell 3; have bx4 := HB.out.cell 4; have HK := Lib.hid (Kept.trans HK.out hk5 (fun _ _ h => h)); clear hk5)
    | (go_at_call 10; (first | with_reducible refine (hW _).mono ?_); rintro e w5 ⟨rfl, hk5⟩; have HA := Lib.hid (hk5.box HA.out (fun h => h)); have HB := Lib.hid (hk5.box HB.out (fun h => h)); have ax0 := HA.out.cell 0; have ax1 := HA.out.cell 1; have ax2 := HA.out.cell 2; have ax3 := HA.out.cell 3; have ax4 := HA.out.cell 4; have bx0 := HB.out.cell 0; have bx1 := HB.out.cell 1; have bx2 := HB.out.cell 2; have bx3 := HB.out.cell 3; have bx4 := HB.out.cell 4; have HK := Lib.hid (Kept.trans HK.out hk5 (fun _ _ h => h)); clear hk5)
    | fail)
  all_goals go_ret
  all_goals exact ⟨rfl, HK.out⟩
set_option maxRecDepth 100000 in
set_option maxHeartbeats 2000000 in
theorem spaneither_main (na : ByteArray) (o : Nat) (n : Int) (v r : ByteArray) (nb : ByteArray) (k : Nat) (m : Int) (u x : ByteArray) (s : ByteArray) (p : Bool) (w : World) (hA : ∀ W : World, Calls Tryd.prog 17 #[.agg #[.int .i64 n, .string v, .string r]] W fun e w' => e = .returned (.bool false) ∧ Kept (fun _ => False) W w') (hB : ∀ W : World, Calls Tryd.prog 17 #[.agg #[.int .i64 m, .string u, .string x]] W fun e w' => e = .returned (.bool false) ∧ Kept (fun _ => False) W w') (M1 : ∀ W : World, Calls Tryd.prog 18 #[.agg #[.string na, .int .u8 (o : Int), .int .i64 n, .string v, .string r], .agg #[.string nb, .int .u8 (k : Int), .int .i64 m, .string u, .string x]] W fun e w' => e = .returned (.bool p) ∧ Kept (fun _ => False) W w') (M2 : ∀ W : World, Calls Tryd.prog 18 #[.agg #[.string nb, .int .u8 (k : Int), .int .i64 m, .string u, .string x], .agg #[.string na, .int .u8 (o : Int), .int .i64 n, .string v, .string r]] W fun e w' => e = .returned (.bool p) ∧ Kept (fun _ => False) W w') (M3 : ∀ W : World, Calls Tryd.prog 18 #[.agg #[.string na, .int .u8 (o : Int), .int .i64 n, .string v, .string r], .agg #[.string na, .int .u8 (o : Int), .int .i64 n, .string v, .string r]] W fun e w' => e = .returned (.bool true) ∧ Kept (fun _ => False) W w') (M4 : ∀ W : World, Calls Tryd.prog 18 #[.agg #[.string na, .int .u8 (0), .int .i64 n, .string v, .string r], .agg #[.string nb, .int .u8 (k : Int), .int .i64 m, .string u, .string x]] W fun e w' => e = .returned (.bool true) ∧ Kept (fun _ => False) W w') (M5 : ∀ W : World, Calls Tryd.prog 18 #[.agg #[.string nb, .int .u8 (k : Int), .int .i64 m, .string u, .string x], .agg #[.string na, .int .u8 (0), .int .i64 n, .string v, .string r]] W fun e w' => e = .returned (.bool true) ∧ Kept (fun _ => False) W w') (M6 : ∀ W : World, Calls Tryd.prog 18 #[.agg #[.string na, .int .u8 (o : Int), .int .i64 n, .string v, .string r], .agg #[.string s, .int .u8 (k : Int), .int .i64 m, .string u, .string x]] W fun e w' => e = .returned (.bool p) ∧ Kept (fun _ => False) W w') (n1 : ¬ (1000 : Int) < (s.size : Int)) : Calls Tryd.prog 6 #[.agg #[.string na, .int .u8 (o : Int), .int .i64 n, .string v, .string r], .agg #[.string nb, .int .u8 (k : Int), .int .i64 m, .string u, .string x], .string s] w fun e w' => e = .returned (.bool true) ∧ Kept (fun _ => False) w w' := by
  have hW := awake_walk
  have hk0 : Kept (fun _ => False) w ((w.alloc (.cells #[.string na, .int .u8 (o : Int), .int .i64 n, .string v, .string r] 31)).alloc (.cells #[.string nb, .int .u8 (k : Int), .int .i64 m, .string u, .string x] 31)) := ((Kept.refl _ _).alloc _).alloc _
  have HK := Lib.hid hk0
  have bA := (Box.made w 31 #[.string na, .int .u8 (o : Int), .int .i64 n, .string v, .string r]).after_alloc (.cells #[.string nb, .int .u8 (k : Int), .int .i64 m, .string u, .string x] 31)
  have bB := Box.made (w.alloc (.cells #[.string na, .int .u8 (o : Int), .int .i64 n, .string v, .string r] 31)) 31 #[.string nb, .int .u8 (k : Int), .int .i64 m, .string u, .string x]
  rw [World.size_alloc] at bB
  have HA := Lib.hid bA
  have HB := Lib.hid bB
  clear hk0 bA bB
  go_enter Tryd.func6, Tryd.ntmps6
  go_wp2_with (first
    | (go_at_call 17; (first | with_reducible refine (hA _).mono ?_ | with_reducible refine (hB _).mono ?_); rintro e w5 ⟨rfl, hk5⟩; have HA := Lib.hid (hk5.box HA.out (fun h => h)); have HB := Lib.hid (hk5.box HB.out (fun h => h)); have ax0 := HA.out.cell 0; have ax1 := HA.out.cell 1; have ax2 := HA.out.cell 2; have ax3 := HA.out.cell 3; have ax4 := HA.out.cell 4; have bx0 := HB.out.cell 0; have bx1 := HB.out.cell 1; have bx2 := HB.out.cell 2; have bx3 := HB.out.cell 3; have bx4 := HB.out.cell 4; have HK := Lib.hid (Kept.trans HK.out hk5 (fun _ _ h => h)); clear hk5)
    | (go_at_call 10; (first | with_reducible refine (hW _).mono ?_); rintro e w5 ⟨rfl, hk5⟩; have HA := Lib.hid (hk5.box HA.out (fun h => h)); have HB := Lib.hid (hk5.box HB.out (fun h => h)); have ax0 := HA.out.cell 0; have ax1 := HA.out.cell 1; have ax2 := HA.out.cell 2; have ax3 := HA.out.cell 3; have ax4 := HA.out.cell 4; have bx0 := HB.out.cell 0; have bx1 := HB.out.cell 1; have bx2 := HB.out.cell 2; have bx3 := HB.out.cell 3; have bx4 := HB.out.cell 4; have HK := Lib.hid (Kept.trans HK.out hk5 (fun _ _ h => h)); clear hk5)
    | fail)
  have szA := HA.out.lt
  have szB := HB.out.lt
  have neA := Nat.ne_of_lt szA
  have neB := Nat.ne_of_lt szB
  have neA' : ¬ w.heap.size = w5.heap.size + 1 := by omega
  have neB' : ¬ w.heap.size + 1 = w5.heap.size + 1 := by omega
  go_region
  · have bP : Box ((w5.alloc (.cells #[.string na, .int .u8 (o : Int), .int .i64 n, .string v, .string r] 31)).alloc (.cells #[.string nb, .int .u8 (k : Int), .int .i64 m, .string u, .string x] 31)).drew w5.heap.size 31 #[.string na, .int .u8 (o : Int), .int .i64 n, .string v, .string r] := (Box.made w5 _ _).after_alloc _
    have bQ : Box ((w5.alloc (.cells #[.string na, .int .u8 (o : Int), .int .i64 n, .string v, .string r] 31)).alloc (.cells #[.string nb, .int .u8 (k : Int), .int .i64 m, .string u, .string x] 31)).drew (w5.heap.size + 1) 31 #[.string nb, .int .u8 (k : Int), .int .i64 m, .string u, .string x] := by
      have h := Box.made (w5.alloc (.cells #[.string na, .int .u8 (o : Int), .int .i64 n, .string v, .string r] 31)) 31 #[.string nb, .int .u8 (k : Int), .int .i64 m, .string u, .string x]
      rw [World.size_alloc] at h
      exact h
    have bA : Box ((w5.alloc (.cells #[.string na, .int .u8 (o : Int), .int .i64 n, .string v, .string r] 31)).alloc (.cells #[.string nb, .int .u8 (k : Int), .int .i64 m, .string u, .string x] 31)).drew w.heap.size 31 #[.string na, .int .u8 (o : Int), .int .i64 n, .string v, .string r] := (HA.out.after_alloc _).after_alloc _
    have bB : Box ((w5.alloc (.cells #[.string na, .int .u8 (o : Int), .int .i64 n, .string v, .string r] 31)).alloc (.cells #[.string nb, .int .u8 (k : Int), .int .i64 m, .string u, .string x] 31)).drew (w.heap.size + 1) 31 #[.string nb, .int .u8 (k : Int), .int .i64 m, .string u, .string x] := (HB.out.after_alloc _).after_alloc _
    have bK : Kept (fun _ => False) w ((w5.alloc (.cells #[.string na, .int .u8 (o : Int), .int .i64 n, .string v, .string r] 31)).alloc (.cells #[.string nb, .int .u8 (k : Int), .int .i64 m, .string u, .string x] 31)).drew := ((HK.out.alloc _).alloc _).drew
    generalize ((w5.alloc (.cells #[.string na, .int .u8 (o : Int), .int .i64 n, .string v, .string r] 31)).alloc (.cells #[.string nb, .int .u8 (k : Int), .int .i64 m, .string u, .string x] 31)).drew = W4 at bA bB bP bQ bK ⊢
    have zP : w.heap.size + 1 < w5.heap.size := by omega
    have zQ : w.heap.size + 1 < w5.heap.size + 1 := by omega
    have hPQ : w5.heap.size ≠ w5.heap.size + 1 := by omega
    clear szA szB neA neB neA' neB'
    generalize w5.heap.size + 1 = Q at bQ zQ hPQ ⊢
    generalize w5.heap.size = P at bP zP hPQ ⊢
    have px1 : W4.cell? ⟨P, 1, none⟩ = some (.int .u8 (o : Int)) := bP.cell 1
    have qx0 : W4.cell? ⟨Q, 0, none⟩ = some (.string nb) := bQ.cell 0
    have pf := bP.free 1
    have qf := bQ.free 0
    have hQP := Ne.symm hPQ
    have HA := Lib.hid bA
    have HB := Lib.hid bB
    have HP := Lib.hid bP
    have HQ := Lib.hid bQ
    have HK := Lib.hid bK
    clear bA bB bP bQ bK
    go_wp2_with fail
    have bA : Box ((W4.setCell ⟨P, 1, none⟩ (.int .u8 0)).setCell ⟨Q, 0, none⟩ (.string s)) w.heap.size 31 #[.string na, .int .u8 (o : Int), .int .i64 n, .string v, .string r] := box_apart (box_apart HA.out (show w.heap.size ≠ P by omega) _) (show w.heap.size ≠ Q by omega) _
    have bB : Box ((W4.setCell ⟨P, 1, none⟩ (.int .u8 0)).setCell ⟨Q, 0, none⟩ (.string s)) (w.heap.size + 1) 31 #[.string nb, .int .u8 (k : Int), .int .i64 m, .string u, .string x] := box_apart (box_apart HB.out (show (w.heap.size + 1) ≠ P by omega) _) (show (w.heap.size + 1) ≠ Q by omega) _
    have bP : Box ((W4.setCell ⟨P, 1, none⟩ (.int .u8 0)).setCell ⟨Q, 0, none⟩ (.string s)) P 31 #[.string na, .int .u8 (0), .int .i64 n, .string v, .string r] := box_apart (HP.out.stored 1 _) hPQ _
    have bQ : Box ((W4.setCell ⟨P, 1, none⟩ (.int .u8 0)).setCell ⟨Q, 0, none⟩ (.string s)) Q 31 #[.string s, .int .u8 (k : Int), .int .i64 m, .string u, .string x] := (box_apart HQ.out hQP _).stored 0 _
    have bK : Kept (fun _ => False) w ((W4.setCell ⟨P, 1, none⟩ (.int .u8 0)).setCell ⟨Q, 0, none⟩ (.string s)) := (HK.out.setCell (p := ⟨P, 1, none⟩) (.inr (by show w.heap.size ≤ P; omega)) _).setCell (p := ⟨Q, 0, none⟩) (.inr (by show w.heap.size ≤ Q; omega)) _
    generalize ((W4.setCell ⟨P, 1, none⟩ (.int .u8 0)).setCell ⟨Q, 0, none⟩ (.string s)) = W5 at bA bB bP bQ bK ⊢
    have HA := Lib.hid bA
    have HB := Lib.hid bB
    have HP := Lib.hid bP
    have HQ := Lib.hid bQ
    have HK := Lib.hid bK
    clear bA bB bP bQ bK px1 qx0 pf qf
    have hpp : (p == p) = true := by cases p <;> rfl
    obtain ⟨T, F, t0, ht0, hFk, hFs⟩ := class_of W5
    have qa0 : ∀ t, (F t).cell? ⟨w.heap.size, 0, none⟩ = some (.string na) := fun t => ((hFk t).box HA.out (fun h => h)).cell 0
    have qa1 : ∀ t, (F t).cell? ⟨w.heap.size, 1, none⟩ = some (.int .u8 (o : Int)) := fun t => ((hFk t).box HA.out (fun h => h)).cell 1
    have qa2 : ∀ t, (F t).cell? ⟨w.heap.size, 2, none⟩ = some (.int .i64 n) := fun t => ((hFk t).box HA.out (fun h => h)).cell 2
    have qa3 : ∀ t, (F t).cell? ⟨w.heap.size, 3, none⟩ = some (.string v) := fun t => ((hFk t).box HA.out (fun h => h)).cell 3
    have qa4 : ∀ t, (F t).cell? ⟨w.heap.size, 4, none⟩ = some (.string r) := fun t => ((hFk t).box HA.out (fun h => h)).cell 4
    have qb0 : ∀ t, (F t).cell? ⟨w.heap.size + 1, 0, none⟩ = some (.string nb) := fun t => ((hFk t).box HB.out (fun h => h)).cell 0
    have qb1 : ∀ t, (F t).cell? ⟨w.heap.size + 1, 1, none⟩ = some (.int .u8 (k : Int)) := fun t => ((hFk t).box HB.out (fun h => h)).cell 1
    have qb2 : ∀ t, (F t).cell? ⟨w.heap.size + 1, 2, none⟩ = some (.int .i64 m) := fun t => ((hFk t).box HB.out (fun h => h)).cell 2
    have qb3 : ∀ t, (F t).cell? ⟨w.heap.size + 1, 3, none⟩ = some (.string u) := fun t => ((hFk t).box HB.out (fun h => h)).cell 3
    have qb4 : ∀ t, (F t).cell? ⟨w.heap.size + 1, 4, none⟩ = some (.string x) := fun t => ((hFk t).box HB.out (fun h => h)).cell 4
    have qp0 : ∀ t, (F t).cell? ⟨P, 0, none⟩ = some (.string na) := fun t => ((hFk t).box HP.out (fun h => h)).cell 0
    have qp1 : ∀ t, (F t).cell? ⟨P, 1, none⟩ = some (.int .u8 (0)) := fun t => ((hFk t).box HP.out (fun h => h)).cell 1
    have qp2 : ∀ t, (F t).cell? ⟨P, 2, none⟩ = some (.int .i64 n) := fun t => ((hFk t).box HP.out (fun h => h)).cell 2
    have qp3 : ∀ t, (F t).cell? ⟨P, 3, none⟩ = some (.string v) := fun t => ((hFk t).box HP.out (fun h => h)).cell 3
    have qp4 : ∀ t, (F t).cell? ⟨P, 4, none⟩ = some (.string r) := fun t => ((hFk t).box HP.out (fun h => h)).cell 4
    have qq0 : ∀ t, (F t).cell? ⟨Q, 0, none⟩ = some (.string s) := fun t => ((hFk t).box HQ.out (fun h => h)).cell 0
    have qq1 : ∀ t, (F t).cell? ⟨Q, 1, none⟩ = some (.int .u8 (k : Int)) := fun t => ((hFk t).box HQ.out (fun h => h)).cell 1
    have qq2 : ∀ t, (F t).cell? ⟨Q, 2, none⟩ = some (.int .i64 m) := fun t => ((hFk t).box HQ.out (fun h => h)).cell 2
    have qq3 : ∀ t, (F t).cell? ⟨Q, 3, none⟩ = some (.string u) := fun t => ((hFk t).box HQ.out (fun h => h)).cell 3
    have qq4 : ∀ t, (F t).cell? ⟨Q, 4, none⟩ = some (.string x) := fun t => ((hFk t).box HQ.out (fun h => h)).cell 4
    have HFK := Lib.hid hFk
    have HFS := Lib.hid hFs
    clear hFk hFs
    have hne : Nonempty T := ⟨t0⟩
    refine wp_region_class F t0 ht0 (by kernel_rfl) (by kernel_rfl) ?_
    repeat (go_big_quiet_step (first
      | (go_at_call 18; (first | with_reducible exact class_call HFS.out (M1 _) | with_reducible exact class_call HFS.out (M2 _) | with_reducible exact class_call HFS.out (M3 _) | with_reducible exact class_call HFS.out (M4 _) | with_reducible exact class_call HFS.out (M5 _) | with_reducible exact class_call HFS.out (M6 _)))))
    refine wpQuiet_nil ?_
    rintro _ ⟨tz, rfl⟩
    have hkz := HK.out.trans (HFK.out tz) (fun _ _ h => h)
    go_wp2_with fail
    go_ret
    exact ⟨by cases p <;> rfl, hkz⟩
  · have bQ : Box ((w5.alloc (.cells #[.string nb, .int .u8 (k : Int), .int .i64 m, .string u, .string x] 31)).alloc (.cells #[.string na, .int .u8 (o : Int), .int .i64 n, .string v, .string r] 31)).drew w5.heap.size 31 #[.string nb, .int .u8 (k : Int), .int .i64 m, .string u, .string x] := (Box.made w5 _ _).after_alloc _
    have bP : Box ((w5.alloc (.cells #[.string nb, .int .u8 (k : Int), .int .i64 m, .string u, .string x] 31)).alloc (.cells #[.string na, .int .u8 (o : Int), .int .i64 n, .string v, .string r] 31)).drew (w5.heap.size + 1) 31 #[.string na, .int .u8 (o : Int), .int .i64 n, .string v, .string r] := by
      have h := Box.made (w5.alloc (.cells #[.string nb, .int .u8 (k : Int), .int .i64 m, .string u, .string x] 31)) 31 #[.string na, .int .u8 (o : Int), .int .i64 n, .string v, .string r]
      rw [World.size_alloc] at h
      exact h
    have bA : Box ((w5.alloc (.cells #[.string nb, .int .u8 (k : Int), .int .i64 m, .string u, .string x] 31)).alloc (.cells #[.string na, .int .u8 (o : Int), .int .i64 n, .string v, .string r] 31)).drew w.heap.size 31 #[.string na, .int .u8 (o : Int), .int .i64 n, .string v, .string r] := (HA.out.after_alloc _).after_alloc _
    have bB : Box ((w5.alloc (.cells #[.string nb, .int .u8 (k : Int), .int .i64 m, .string u, .string x] 31)).alloc (.cells #[.string na, .int .u8 (o : Int), .int .i64 n, .string v, .string r] 31)).drew (w.heap.size + 1) 31 #[.string nb, .int .u8 (k : Int), .int .i64 m, .string u, .string x] := (HB.out.after_alloc _).after_alloc _
    have bK : Kept (fun _ => False) w ((w5.alloc (.cells #[.string nb, .int .u8 (k : Int), .int .i64 m, .string u, .string x] 31)).alloc (.cells #[.string na, .int .u8 (o : Int), .int .i64 n, .string v, .string r] 31)).drew := ((HK.out.alloc _).alloc _).drew
    generalize ((w5.alloc (.cells #[.string nb, .int .u8 (k : Int), .int .i64 m, .string u, .string x] 31)).alloc (.cells #[.string na, .int .u8 (o : Int), .int .i64 n, .string v, .string r] 31)).drew = W4 at bA bB bP bQ bK ⊢
    have zP : w.heap.size + 1 < w5.heap.size + 1 := by omega
    have zQ : w.heap.size + 1 < w5.heap.size := by omega
    have hPQ : w5.heap.size + 1 ≠ w5.heap.size := by omega
    clear szA szB neA neB neA' neB'
    generalize w5.heap.size + 1 = P at bP zP hPQ ⊢
    generalize w5.heap.size = Q at bQ zQ hPQ ⊢
    have px1 : W4.cell? ⟨P, 1, none⟩ = some (.int .u8 (o : Int)) := bP.cell 1
    have qx0 : W4.cell? ⟨Q, 0, none⟩ = some (.string nb) := bQ.cell 0
    have pf := bP.free 1
    have qf := bQ.free 0
    have hQP := Ne.symm hPQ
    have HA := Lib.hid bA
    have HB := Lib.hid bB
    have HP := Lib.hid bP
    have HQ := Lib.hid bQ
    have HK := Lib.hid bK
    clear bA bB bP bQ bK
    go_wp2_with fail
    have bA : Box ((W4.setCell ⟨P, 1, none⟩ (.int .u8 0)).setCell ⟨Q, 0, none⟩ (.string s)) w.heap.size 31 #[.string na, .int .u8 (o : Int), .int .i64 n, .string v, .string r] := box_apart (box_apart HA.out (show w.heap.size ≠ P by omega) _) (show w.heap.size ≠ Q by omega) _
    have bB : Box ((W4.setCell ⟨P, 1, none⟩ (.int .u8 0)).setCell ⟨Q, 0, none⟩ (.string s)) (w.heap.size + 1) 31 #[.string nb, .int .u8 (k : Int), .int .i64 m, .string u, .string x] := box_apart (box_apart HB.out (show (w.heap.size + 1) ≠ P by omega) _) (show (w.heap.size + 1) ≠ Q by omega) _
    have bP : Box ((W4.setCell ⟨P, 1, none⟩ (.int .u8 0)).setCell ⟨Q, 0, none⟩ (.string s)) P 31 #[.string na, .int .u8 (0), .int .i64 n, .string v, .string r] := box_apart (HP.out.stored 1 _) hPQ _
    have bQ : Box ((W4.setCell ⟨P, 1, none⟩ (.int .u8 0)).setCell ⟨Q, 0, none⟩ (.string s)) Q 31 #[.string s, .int .u8 (k : Int), .int .i64 m, .string u, .string x] := (box_apart HQ.out hQP _).stored 0 _
    have bK : Kept (fun _ => False) w ((W4.setCell ⟨P, 1, none⟩ (.int .u8 0)).setCell ⟨Q, 0, none⟩ (.string s)) := (HK.out.setCell (p := ⟨P, 1, none⟩) (.inr (by show w.heap.size ≤ P; omega)) _).setCell (p := ⟨Q, 0, none⟩) (.inr (by show w.heap.size ≤ Q; omega)) _
    generalize ((W4.setCell ⟨P, 1, none⟩ (.int .u8 0)).setCell ⟨Q, 0, none⟩ (.string s)) = W5 at bA bB bP bQ bK ⊢
    have HA := Lib.hid bA
    have HB := Lib.hid bB
    have HP := Lib.hid bP
    have HQ := Lib.hid bQ
    have HK := Lib.hid bK
    clear bA bB bP bQ bK px1 qx0 pf qf
    have hpp : (p == p) = true := by cases p <;> rfl
    obtain ⟨T, F, t0, ht0, hFk, hFs⟩ := class_of W5
    have qa0 : ∀ t, (F t).cell? ⟨w.heap.size, 0, none⟩ = some (.string na) := fun t => ((hFk t).box HA.out (fun h => h)).cell 0
    have qa1 : ∀ t, (F t).cell? ⟨w.heap.size, 1, none⟩ = some (.int .u8 (o : Int)) := fun t => ((hFk t).box HA.out (fun h => h)).cell 1
    have qa2 : ∀ t, (F t).cell? ⟨w.heap.size, 2, none⟩ = some (.int .i64 n) := fun t => ((hFk t).box HA.out (fun h => h)).cell 2
    have qa3 : ∀ t, (F t).cell? ⟨w.heap.size, 3, none⟩ = some (.string v) := fun t => ((hFk t).box HA.out (fun h => h)).cell 3
    have qa4 : ∀ t, (F t).cell? ⟨w.heap.size, 4, none⟩ = some (.string r) := fun t => ((hFk t).box HA.out (fun h => h)).cell 4
    have qb0 : ∀ t, (F t).cell? ⟨w.heap.size + 1, 0, none⟩ = some (.string nb) := fun t => ((hFk t).box HB.out (fun h => h)).cell 0
    have qb1 : ∀ t, (F t).cell? ⟨w.heap.size + 1, 1, none⟩ = some (.int .u8 (k : Int)) := fun t => ((hFk t).box HB.out (fun h => h)).cell 1
    have qb2 : ∀ t, (F t).cell? ⟨w.heap.size + 1, 2, none⟩ = some (.int .i64 m) := fun t => ((hFk t).box HB.out (fun h => h)).cell 2
    have qb3 : ∀ t, (F t).cell? ⟨w.heap.size + 1, 3, none⟩ = some (.string u) := fun t => ((hFk t).box HB.out (fun h => h)).cell 3
    have qb4 : ∀ t, (F t).cell? ⟨w.heap.size + 1, 4, none⟩ = some (.string x) := fun t => ((hFk t).box HB.out (fun h => h)).cell 4
    have qp0 : ∀ t, (F t).cell? ⟨P, 0, none⟩ = some (.string na) := fun t => ((hFk t).box HP.out (fun h => h)).cell 0
    have qp1 : ∀ t, (F t).cell? ⟨P, 1, none⟩ = some (.int .u8 (0)) := fun t => ((hFk t).box HP.out (fun h => h)).cell 1
    have qp2 : ∀ t, (F t).cell? ⟨P, 2, none⟩ = some (.int .i64 n) := fun t => ((hFk t).box HP.out (fun h => h)).cell 2
    have qp3 : ∀ t, (F t).cell? ⟨P, 3, none⟩ = some (.string v) := fun t => ((hFk t).box HP.out (fun h => h)).cell 3
    have qp4 : ∀ t, (F t).cell? ⟨P, 4, none⟩ = some (.string r) := fun t => ((hFk t).box HP.out (fun h => h)).cell 4
    have qq0 : ∀ t, (F t).cell? ⟨Q, 0, none⟩ = some (.string s) := fun t => ((hFk t).box HQ.out (fun h => h)).cell 0
    have qq1 : ∀ t, (F t).cell? ⟨Q, 1, none⟩ = some (.int .u8 (k : Int)) := fun t => ((hFk t).box HQ.out (fun h => h)).cell 1
    have qq2 : ∀ t, (F t).cell? ⟨Q, 2, none⟩ = some (.int .i64 m) := fun t => ((hFk t).box HQ.out (fun h => h)).cell 2
    have qq3 : ∀ t, (F t).cell? ⟨Q, 3, none⟩ = some (.string u) := fun t => ((hFk t).box HQ.out (fun h => h)).cell 3
    have qq4 : ∀ t, (F t).cell? ⟨Q, 4, none⟩ = some (.string x) := fun t => ((hFk t).box HQ.out (fun h => h)).cell 4
    have HFK := Lib.hid hFk
    have HFS := Lib.hid hFs
    clear hFk hFs
    have hne : Nonempty T := ⟨t0⟩
    refine wp_region_class F t0 ht0 (by kernel_rfl) (by kernel_rfl) ?_
    repeat (go_big_quiet_step (first
      | (go_at_call 18; (first | with_reducible exact class_call HFS.out (M1 _) | with_reducible exact class_call HFS.out (M2 _) | with_reducible exact class_call HFS.out (M3 _) | with_reducible exact class_call HFS.out (M4 _) | with_reducible exact class_call HFS.out (M5 _) | with_reducible exact class_call HFS.out (M6 _)))))
    refine wpQuiet_nil ?_
    rintro _ ⟨tz, rfl⟩
    have hkz := HK.out.trans (HFK.out tz) (fun _ _ h => h)
    go_wp2_with fail
    go_ret
    exact ⟨by cases p <;> rfl, hkz⟩
end Go.Proofs.YtjjjelgjjdgldaaDoor
