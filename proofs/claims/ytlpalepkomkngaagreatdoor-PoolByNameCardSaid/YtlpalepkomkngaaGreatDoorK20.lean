/-
  The walks over the program's own text of layer 4: two ranges that meet. The walks over the document's answer for layer 3. The walks over the document's answer for layer 3. Conditions: as each theorem states.
-/
import Derived.Test.YtlpalepkomkngaaGreatDoorK19
import Derived.Test.YtlpalepkomkngaaGreatDoorK01
import Derived.Test.YtlpalepkomkngaaGreatDoorK04
import Derived.Test.YtlpalepkomkngaaGreatDoorRows
import Derived.Deep.CutRange
import Derived.Deep.CutBlock
import Derived.Handy
import Derived.Lib.Hide
import Derived.Deep.QuietTactic
import Derived.BigQuiet
namespace Go.Proofs.YtlpalepkomkngaaGreatDoor
open Go.RowKit Go.Maps Span Evr

section
variable (nm : ByteArray) (o : Nat) (n : Int) (v r : ByteArray) (nb : ByteArray) (k : Nat) (m : Int) (u x : ByteArray) (w : World) (ho : o < 256) (hk : k < 256)
include ho hk
omit hk in
set_option maxRecDepth 100000 in
set_option maxHeartbeats 1000000 in
theorem meet_any1 (h : o % 8 = 0) : Calls Tryz.prog 108 #[depV nm o n v r, depV nb k m u x] w fun e w' => e = .returned (.bool (true)) ∧ Kept (fun _ => False) w w' := by
  have A1 := any_yes nm o n v r ho h
  have A2 := A1
  have hk0 : Kept (fun _ => False) w ((w.alloc (.cells #[.string nm, .int .u8 (o : Int), .int .i64 n, .string v, .string r] 37)).alloc (.cells #[.string nb, .int .u8 (k : Int), .int .i64 m, .string u, .string x] 37)) := ((Kept.refl _ _).alloc _).alloc _
  have HK := Lib.hid hk0
  have bA := (Box.made w 37 #[.string nm, .int .u8 (o : Int), .int .i64 n, .string v, .string r]).after_alloc (.cells #[.string nb, .int .u8 (k : Int), .int .i64 m, .string u, .string x] 37)
  have bB := Box.made (w.alloc (.cells #[.string nm, .int .u8 (o : Int), .int .i64 n, .string v, .string r] 37)) 37 #[.string nb, .int .u8 (k : Int), .int .i64 m, .string u, .string x]
  rw [World.size_alloc] at bB
  have HA := Lib.hid bA
  have HB := Lib.hid bB
  clear hk0 bA bB
  go_enter Tryz.func108, Tryz.ntmps108
  go_wp2_with (first
    | (go_at_call 139; (first | with_reducible refine (A1 _).mono ?_ | with_reducible refine (A2 _).mono ?_); rintro e w5 ⟨rfl, hk5⟩; have HA := Lib.hid (hk5.box HA.out (fun h => h)); have HB := Lib.hid (hk5.box HB.out (fun h => h)); have a0 := HA.out.cell 0; have b0 := HB.out.cell 0; have a1 := HA.out.cell 1; have b1 := HB.out.cell 1; have a2 := HA.out.cell 2; have b2 := HB.out.cell 2; have a3 := HA.out.cell 3; have b3 := HB.out.cell 3; have a4 := HA.out.cell 4; have b4 := HB.out.cell 4; have HK := Lib.hid (Kept.trans HK.out hk5 (fun _ _ h => h)); clear hk5)
    | fail)
  go_ret
  exact ⟨rfl, HK.out⟩
set_option maxRecDepth 100000 in
set_option maxHeartbeats 1000000 in
theorem meet_any2 (h : o % 8 ≠ 0) (h2 : k % 8 = 0) : Calls Tryz.prog 108 #[depV nm o n v r, depV nb k m u x] w fun e w' => e = .returned (.bool (true)) ∧ Kept (fun _ => False) w w' := by
  have A1 := any_no nm o n v r ho h
  have A2 := any_yes nb k m u x hk h2
  have hk0 : Kept (fun _ => False) w ((w.alloc (.cells #[.string nm, .int .u8 (o : Int), .int .i64 n, .string v, .string r] 37)).alloc (.cells #[.string nb, .int .u8 (k : Int), .int .i64 m, .string u, .string x] 37)) := ((Kept.refl _ _).alloc _).alloc _
  have HK := Lib.hid hk0
  have bA := (Box.made w 37 #[.string nm, .int .u8 (o : Int), .int .i64 n, .string v, .string r]).after_alloc (.cells #[.string nb, .int .u8 (k : Int), .int .i64 m, .string u, .string x] 37)
  have bB := Box.made (w.alloc (.cells #[.string nm, .int .u8 (o : Int), .int .i64 n, .string v, .string r] 37)) 37 #[.string nb, .int .u8 (k : Int), .int .i64 m, .string u, .string x]
  rw [World.size_alloc] at bB
  have HA := Lib.hid bA
  have HB := Lib.hid bB
  clear hk0 bA bB
  go_enter Tryz.func108, Tryz.ntmps108
  go_wp2_with (first
    | (go_at_call 139; (first | with_reducible refine (A1 _).mono ?_ | with_reducible refine (A2 _).mono ?_); rintro e w5 ⟨rfl, hk5⟩; have HA := Lib.hid (hk5.box HA.out (fun h => h)); have HB := Lib.hid (hk5.box HB.out (fun h => h)); have a0 := HA.out.cell 0; have b0 := HB.out.cell 0; have a1 := HA.out.cell 1; have b1 := HB.out.cell 1; have a2 := HA.out.cell 2; have b2 := HB.out.cell 2; have a3 := HA.out.cell 3; have b3 := HB.out.cell 3; have a4 := HA.out.cell 4; have b4 := HB.out.cell 4; have HK := Lib.hid (Kept.trans HK.out hk5 (fun _ _ h => h)); clear hk5)
    | fail)
  go_ret
  exact ⟨rfl, HK.out⟩
set_option maxRecDepth 100000 in
set_option maxHeartbeats 1000000 in
theorem meet_less1 (h : o % 8 ≠ 0) (h2 : k % 8 ≠ 0) (q : bits .and .u8 (o : Int) 4 = 4) (C1 : ∀ W, Calls Tryz.prog 140 #[.agg #[.int .i64 n, .string v, .string r], .agg #[.int .i64 m, .string u, .string x]] W fun e w' => e = .returned (.int .i64 (-1)) ∧ Kept (fun _ => False) W w') : Calls Tryz.prog 108 #[depV nm o n v r, depV nb k m u x] w fun e w' => e = .returned (.bool (true)) ∧ Kept (fun _ => False) w w' := by
  have A1 := any_no nm o n v r ho h
  have A2 := any_no nb k m u x hk h2
  have hk0 : Kept (fun _ => False) w ((w.alloc (.cells #[.string nm, .int .u8 (o : Int), .int .i64 n, .string v, .string r] 37)).alloc (.cells #[.string nb, .int .u8 (k : Int), .int .i64 m, .string u, .string x] 37)) := ((Kept.refl _ _).alloc _).alloc _
  have HK := Lib.hid hk0
  have bA := (Box.made w 37 #[.string nm, .int .u8 (o : Int), .int .i64 n, .string v, .string r]).after_alloc (.cells #[.string nb, .int .u8 (k : Int), .int .i64 m, .string u, .string x] 37)
  have bB := Box.made (w.alloc (.cells #[.string nm, .int .u8 (o : Int), .int .i64 n, .string v, .string r] 37)) 37 #[.string nb, .int .u8 (k : Int), .int .i64 m, .string u, .string x]
  rw [World.size_alloc] at bB
  have HA := Lib.hid bA
  have HB := Lib.hid bB
  clear hk0 bA bB
  go_enter Tryz.func108, Tryz.ntmps108
  go_wp2_with (first
    | (go_at_call 139; (first | with_reducible refine (A1 _).mono ?_ | with_reducible refine (A2 _).mono ?_); rintro e w5 ⟨rfl, hk5⟩; have HA := Lib.hid (hk5.box HA.out (fun h => h)); have HB := Lib.hid (hk5.box HB.out (fun h => h)); have a0 := HA.out.cell 0; have b0 := HB.out.cell 0; have a1 := HA.out.cell 1; have b1 := HB.out.cell 1; have a2 := HA.out.cell 2; have b2 := HB.out.cell 2; have a3 := HA.out.cell 3; have b3 := HB.out.cell 3; have a4 := HA.out.cell 4; have b4 := HB.out.cell 4; have HK := Lib.hid (Kept.trans HK.out hk5 (fun _ _ h => h)); clear hk5)
    | (go_at_call 140; with_reducible refine (C1 _).mono ?_; rintro e w5 ⟨rfl, hk5⟩; have HA := Lib.hid (hk5.box HA.out (fun h => h)); have HB := Lib.hid (hk5.box HB.out (fun h => h)); have a0 := HA.out.cell 0; have b0 := HB.out.cell 0; have a1 := HA.out.cell 1; have b1 := HB.out.cell 1; have a2 := HA.out.cell 2; have b2 := HB.out.cell 2; have a3 := HA.out.cell 3; have b3 := HB.out.cell 3; have a4 := HA.out.cell 4; have b4 := HB.out.cell 4; have HK := Lib.hid (Kept.trans HK.out hk5 (fun _ _ h => h)); clear hk5)
    | fail)
  go_ret
  exact ⟨rfl, HK.out⟩
set_option maxRecDepth 100000 in
set_option maxHeartbeats 1000000 in
theorem meet_less0 (h : o % 8 ≠ 0) (h2 : k % 8 ≠ 0) (q : bits .and .u8 (o : Int) 4 = 0) (C1 : ∀ W, Calls Tryz.prog 140 #[.agg #[.int .i64 n, .string v, .string r], .agg #[.int .i64 m, .string u, .string x]] W fun e w' => e = .returned (.int .i64 (-1)) ∧ Kept (fun _ => False) W w') : Calls Tryz.prog 108 #[depV nm o n v r, depV nb k m u x] w fun e w' => e = .returned (.bool (bits .and .u8 (k : Int) 1 != 0)) ∧ Kept (fun _ => False) w w' := by
  have A1 := any_no nm o n v r ho h
  have A2 := any_no nb k m u x hk h2
  have hk0 : Kept (fun _ => False) w ((w.alloc (.cells #[.string nm, .int .u8 (o : Int), .int .i64 n, .string v, .string r] 37)).alloc (.cells #[.string nb, .int .u8 (k : Int), .int .i64 m, .string u, .string x] 37)) := ((Kept.refl _ _).alloc _).alloc _
  have HK := Lib.hid hk0
  have bA := (Box.made w 37 #[.string nm, .int .u8 (o : Int), .int .i64 n, .string v, .string r]).after_alloc (.cells #[.string nb, .int .u8 (k : Int), .int .i64 m, .string u, .string x] 37)
  have bB := Box.made (w.alloc (.cells #[.string nm, .int .u8 (o : Int), .int .i64 n, .string v, .string r] 37)) 37 #[.string nb, .int .u8 (k : Int), .int .i64 m, .string u, .string x]
  rw [World.size_alloc] at bB
  have HA := Lib.hid bA
  have HB := Lib.hid bB
  clear hk0 bA bB
  go_enter Tryz.func108, Tryz.ntmps108
  go_wp2_with (first
    | (go_at_call 139; (first | with_reducible refine (A1 _).mono ?_ | with_reducible refine (A2 _).mono ?_); rintro e w5 ⟨rfl, hk5⟩; have HA := Lib.hid (hk5.box HA.out (fun h => h)); have HB := Lib.hid (hk5.box HB.out (fun h => h)); have a0 := HA.out.cell 0; have b0 := HB.out.cell 0; have a1 := HA.out.cell 1; have b1 := HB.out.cell 1; have a2 := HA.out.cell 2; have b2 := HB.out.cell 2; have a3 := HA.out.cell 3; have b3 := HB.out.cell 3; have a4 := HA.out.cell 4; have b4 := HB.out.cell 4; have HK := Lib.hid (Kept.trans HK.out hk5 (fun _ _ h => h)); clear hk5)
    | (go_at_call 140; with_reducible refine (C1 _).mono ?_; rintro e w5 ⟨rfl, hk5⟩; have HA := Lib.hid (hk5.box HA.out (fun h => h)); have HB := Lib.hid (hk5.box HB.out (fun h => h)); have a0 := HA.out.cell 0; have b0 := HB.out.cell 0; have a1 := HA.out.cell 1; have b1 := HB.out.cell 1; have a2 := HA.out.cell 2; have b2 := HB.out.cell 2; have a3 := HA.out.cell 3; have b3 := HB.out.cell 3; have a4 := HA.out.cell 4; have b4 := HB.out.cell 4; have HK := Lib.hid (Kept.trans HK.out hk5 (fun _ _ h => h)); clear hk5)
    | fail)
  go_ret
  exact ⟨rfl, HK.out⟩
set_option maxRecDepth 100000 in
set_option maxHeartbeats 1000000 in
theorem meet_more1 (h : o % 8 ≠ 0) (h2 : k % 8 ≠ 0) (q : bits .and .u8 (o : Int) 1 = 1) (C1 : ∀ W, Calls Tryz.prog 140 #[.agg #[.int .i64 n, .string v, .string r], .agg #[.int .i64 m, .string u, .string x]] W fun e w' => e = .returned (.int .i64 (1)) ∧ Kept (fun _ => False) W w') : Calls Tryz.prog 108 #[depV nm o n v r, depV nb k m u x] w fun e w' => e = .returned (.bool (true)) ∧ Kept (fun _ => False) w w' := by
  have A1 := any_no nm o n v r ho h
  have A2 := any_no nb k m u x hk h2
  have hk0 : Kept (fun _ => False) w ((w.alloc (.cells #[.string nm, .int .u8 (o : Int), .int .i64 n, .string v, .string r] 37)).alloc (.cells #[.string nb, .int .u8 (k : Int), .int .i64 m, .string u, .string x] 37)) := ((Kept.refl _ _).alloc _).alloc _
  have HK := Lib.hid hk0
  have bA := (Box.made w 37 #[.string nm, .int .u8 (o : Int), .int .i64 n, .string v, .string r]).after_alloc (.cells #[.string nb, .int .u8 (k : Int), .int .i64 m, .string u, .string x] 37)
  have bB := Box.made (w.alloc (.cells #[.string nm, .int .u8 (o : Int), .int .i64 n, .string v, .string r] 37)) 37 #[.string nb, .int .u8 (k : Int), .int .i64 m, .string u, .string x]
  rw [World.size_alloc] at bB
  have HA := Lib.hid bA
  have HB := Lib.hid bB
  clear hk0 bA bB
  go_enter Tryz.func108, Tryz.ntmps108
  go_wp2_with (first
    | (go_at_call 139; (first | with_reducible refine (A1 _).mono ?_ | with_reducible refine (A2 _).mono ?_); rintro e w5 ⟨rfl, hk5⟩; have HA := Lib.hid (hk5.box HA.out (fun h => h)); have HB := Lib.hid (hk5.box HB.out (fun h => h)); have a0 := HA.out.cell 0; have b0 := HB.out.cell 0; have a1 := HA.out.cell 1; have b1 := HB.out.cell 1; have a2 := HA.out.cell 2; have b2 := HB.out.cell 2; have a3 := HA.out.cell 3; have b3 := HB.out.cell 3; have a4 := HA.out.cell 4; have b4 := HB.out.cell 4; have HK := Lib.hid (Kept.trans HK.out hk5 (fun _ _ h => h)); clear hk5)
    | (go_at_call 140; with_reducible refine (C1 _).mono ?_; rintro e w5 ⟨rfl, hk5⟩; have HA := Lib.hid (hk5.box HA.out (fun h => h)); have HB := Lib.hid (hk5.box HB.out (fun h => h)); have a0 := HA.out.cell 0; have b0 := HB.out.cell 0; have a1 := HA.out.cell 1; have b1 := HB.out.cell 1; have a2 := HA.out.cell 2; have b2 := HB.out.cell 2; have a3 := HA.out.cell 3; have b3 := HB.out.cell 3; have a4 := HA.out.cell 4; have b4 := HB.out.cell 4; have HK := Lib.hid (Kept.trans HK.out hk5 (fun _ _ h => h)); clear hk5)
    | fail)
  go_ret
  exact ⟨rfl, HK.out⟩
set_option maxRecDepth 100000 in
set_option maxHeartbeats 1000000 in
theorem meet_more0 (h : o % 8 ≠ 0) (h2 : k % 8 ≠ 0) (q : bits .and .u8 (o : Int) 1 = 0) (C1 : ∀ W, Calls Tryz.prog 140 #[.agg #[.int .i64 n, .string v, .string r], .agg #[.int .i64 m, .string u, .string x]] W fun e w' => e = .returned (.int .i64 (1)) ∧ Kept (fun _ => False) W w') : Calls Tryz.prog 108 #[depV nm o n v r, depV nb k m u x] w fun e w' => e = .returned (.bool (bits .and .u8 (k : Int) 4 != 0)) ∧ Kept (fun _ => False) w w' := by
  have A1 := any_no nm o n v r ho h
  have A2 := any_no nb k m u x hk h2
  have hk0 : Kept (fun _ => False) w ((w.alloc (.cells #[.string nm, .int .u8 (o : Int), .int .i64 n, .string v, .string r] 37)).alloc (.cells #[.string nb, .int .u8 (k : Int), .int .i64 m, .string u, .string x] 37)) := ((Kept.refl _ _).alloc _).alloc _
  have HK := Lib.hid hk0
  have bA := (Box.made w 37 #[.string nm, .int .u8 (o : Int), .int .i64 n, .string v, .string r]).after_alloc (.cells #[.string nb, .int .u8 (k : Int), .int .i64 m, .string u, .string x] 37)
  have bB := Box.made (w.alloc (.cells #[.string nm, .int .u8 (o : Int), .int .i64 n, .string v, .string r] 37)) 37 #[.string nb, .int .u8 (k : Int), .int .i64 m, .string u, .string x]
  rw [World.size_alloc] at bB
  have HA := Lib.hid bA
  have HB := Lib.hid bB
  clear hk0 bA bB
  go_enter Tryz.func108, Tryz.ntmps108
  go_wp2_with (first
    | (go_at_call 139; (first | with_reducible refine (A1 _).mono ?_ | with_reducible refine (A2 _).mono ?_); rintro e w5 ⟨rfl, hk5⟩; have HA := Lib.hid (hk5.box HA.out (fun h => h)); have HB := Lib.hid (hk5.box HB.out (fun h => h)); have a0 := HA.out.cell 0; have b0 := HB.out.cell 0; have a1 := HA.out.cell 1; have b1 := HB.out.cell 1; have a2 := HA.out.cell 2; have b2 := HB.out.cell 2; have a3 := HA.out.cell 3; have b3 := HB.out.cell 3; have a4 := HA.out.cell 4; have b4 := HB.out.cell 4; have HK := Lib.hid (Kept.trans HK.out hk5 (fun _ _ h => h)); clear hk5)
    | (go_at_call 140; with_reducible refine (C1 _).mono ?_; rintro e w5 ⟨rfl, hk5⟩; have HA := Lib.hid (hk5.box HA.out (fun h => h)); have HB := Lib.hid (hk5.box HB.out (fun h => h)); have a0 := HA.out.cell 0; have b0 := HB.out.cell 0; have a1 := HA.out.cell 1; have b1 := HB.out.cell 1; have a2 := HA.out.cell 2; have b2 := HB.out.cell 2; have a3 := HA.out.cell 3; have b3 := HB.out.cell 3; have a4 := HA.out.cell 4; have b4 := HB.out.cell 4; have HK := Lib.hid (Kept.trans HK.out hk5 (fun _ _ h => h)); clear hk5)
    | fail)
  go_ret
  exact ⟨rfl, HK.out⟩
set_option maxRecDepth 100000 in
set_option maxHeartbeats 1000000 in
theorem meet_same (h : o % 8 ≠ 0) (h2 : k % 8 ≠ 0) (C1 : ∀ W, Calls Tryz.prog 140 #[.agg #[.int .i64 n, .string v, .string r], .agg #[.int .i64 m, .string u, .string x]] W fun e w' => e = .returned (.int .i64 (0)) ∧ Kept (fun _ => False) W w') : Calls Tryz.prog 108 #[depV nm o n v r, depV nb k m u x] w fun e w' => e = .returned (.bool (bits .and .u8 (bits .and .u8 (o : Int) (k : Int)) 7 != 0)) ∧ Kept (fun _ => False) w w' := by
  have A1 := any_no nm o n v r ho h
  have A2 := any_no nb k m u x hk h2
  have hk0 : Kept (fun _ => False) w ((w.alloc (.cells #[.string nm, .int .u8 (o : Int), .int .i64 n, .string v, .string r] 37)).alloc (.cells #[.string nb, .int .u8 (k : Int), .int .i64 m, .string u, .string x] 37)) := ((Kept.refl _ _).alloc _).alloc _
  have HK := Lib.hid hk0
  have bA := (Box.made w 37 #[.string nm, .int .u8 (o : Int), .int .i64 n, .string v, .string r]).after_alloc (.cells #[.string nb, .int .u8 (k : Int), .int .i64 m, .string u, .string x] 37)
  have bB := Box.made (w.alloc (.cells #[.string nm, .int .u8 (o : Int), .int .i64 n, .string v, .string r] 37)) 37 #[.string nb, .int .u8 (k : Int), .int .i64 m, .string u, .string x]
  rw [World.size_alloc] at bB
  have HA := Lib.hid bA
  have HB := Lib.hid bB
  clear hk0 bA bB
  go_enter Tryz.func108, Tryz.ntmps108
  go_wp2_with (first
    | (go_at_call 139; (first | with_reducible refine (A1 _).mono ?_ | with_reducible refine (A2 _).mono ?_); rintro e w5 ⟨rfl, hk5⟩; have HA := Lib.hid (hk5.box HA.out (fun h => h)); have HB := Lib.hid (hk5.box HB.out (fun h => h)); have a0 := HA.out.cell 0; have b0 := HB.out.cell 0; have a1 := HA.out.cell 1; have b1 := HB.out.cell 1; have a2 := HA.out.cell 2; have b2 := HB.out.cell 2; have a3 := HA.out.cell 3; have b3 := HB.out.cell 3; have a4 := HA.out.cell 4; have b4 := HB.out.cell 4; have HK := Lib.hid (Kept.trans HK.out hk5 (fun _ _ h => h)); clear hk5)
    | (go_at_call 140; with_reducible refine (C1 _).mono ?_; rintro e w5 ⟨rfl, hk5⟩; have HA := Lib.hid (hk5.box HA.out (fun h => h)); have HB := Lib.hid (hk5.box HB.out (fun h => h)); have a0 := HA.out.cell 0; have b0 := HB.out.cell 0; have a1 := HA.out.cell 1; have b1 := HB.out.cell 1; have a2 := HA.out.cell 2; have b2 := HB.out.cell 2; have a3 := HA.out.cell 3; have b3 := HB.out.cell 3; have a4 := HA.out.cell 4; have b4 := HB.out.cell 4; have HK := Lib.hid (Kept.trans HK.out hk5 (fun _ _ h => h)); clear hk5)
    | fail)
  go_ret
  exact ⟨rfl, HK.out⟩
theorem meet_k (hv : v.size ≤ 1000000) (hr : r.size ≤ 1000000) (hu : u.size ≤ 1000000) (hx : x.size ≤ 1000000) : Calls Tryz.prog 108 #[depV nm o n v r, depV nb k m u x] w fun e w' => e = .returned (.bool (meetO o k (cmpE (evrE n v r) (evrE m u x)))) ∧ Kept (fun _ => False) w w' := by
  have hC := fun W => compareK_walk n m v r u x W hv hr hu hx
  have h3 := three (e_range (evrE n v r) (evrE m u x))
  by_cases h : o % 8 = 0
  · have e : ∀ c, meetO o k c = true := fun c => by unfold meetO; simp [h]
    rw [e]
    exact meet_any1 nm o n v r nb k m u x w ho h
  · have h0 : (o % 8 == 0) = false := by simp [h]
    by_cases h2 : k % 8 = 0
    · have e : ∀ c, meetO o k c = true := fun c => by unfold meetO; simp [h2]
      rw [e]
      exact meet_any2 nm o n v r nb k m u x w ho hk h h2
    · have h4 : (k % 8 == 0) = false := by simp [h2]
      rcases h3 with h3 | h3 | h3
      · rw [h3] at hC ⊢
        by_cases q : o / 4 % 2 = 1
        · have e : meetO o k (-1) = true := by simp [meetO, q]
          rw [e]
          exact meet_less1 nm o n v r nb k m u x w ho hk h h2 (by rw [bit_four o ho, q]; rfl) hC
        · have e : meetO o k (-1) = (bits .and .u8 (k : Int) 1 != 0) := by
            rw [bit_one k hk, Bool.eq_iff_iff]; simp [meetO, h0, h4, q]; omega
          rw [e]
          exact meet_less0 nm o n v r nb k m u x w ho hk h h2 (by rw [bit_four o ho, show o / 4 % 2 = 0 by omega]; rfl) hC
      · rw [h3] at hC ⊢
        have e : meetO o k 0 = (bits .and .u8 (bits .and .u8 (o : Int) (k : Int)) 7 != 0) := by
          have hb := both_bits o k
          rw [both_seven o k ho hk, Bool.eq_iff_iff]
          simp only [meetO, h0, h4, Bool.false_or, Int.lt_irrefl, if_false, bne_iff_ne, ne_eq, Bool.or_eq_true, Bool.and_eq_true, beq_iff_eq]
          rw [show ((((o % 8) &&& (k % 8) : Nat) : Int) = 0) = (((o % 8) &&& (k % 8)) = 0) from propext Int.ofNat_eq_zero]
          rw [← ne_eq, hb, or_assoc]
        rw [e]
        exact meet_same nm o n v r nb k m u x w ho hk h h2 hC
      · rw [h3] at hC ⊢
        by_cases q : o % 2 = 1
        · have e : meetO o k 1 = true := by simp [meetO, q]
          rw [e]
          exact meet_more1 nm o n v r nb k m u x w ho hk h h2 (by rw [bit_one o ho, q]; rfl) hC
        · have e : meetO o k 1 = (bits .and .u8 (k : Int) 4 != 0) := by
            rw [bit_four k hk, Bool.eq_iff_iff]; simp [meetO, h0, h4, q]; omega
          rw [e]
          exact meet_more0 nm o n v r nb k m u x w ho hk h h2 (by rw [bit_one o ho, show o % 2 = 0 by omega]; rfl) hC
end
end Go.Proofs.YtlpalepkomkngaaGreatDoor

namespace Go.Proofs.YtlpalepkomkngaaGreatDoor
open Go.RowKit Ver Evr

theorem take_ok {s : List UInt8} {i : Nat} {c : UInt8} (h : (s.take i).all okB = true) (hc : s[i]? = some c) (hok : okB c = true) : (s.take (i + 1)).all okB = true := by
  rw [List.take_add_one, hc, List.all_append, h]
  simp [hok]
theorem word_not {s : List UInt8} {i : Nat} {c : UInt8} (hc : s[i]? = some c) (hok : okB c = false) : wordE s = false := by
  unfold wordE
  have : s.all okB = false := by
    rw [List.all_eq_false]
    exact ⟨c, List.mem_of_getElem? hc, by simp [hok]⟩
  rw [this]
  rfl

set_option maxRecDepth 100000 in
set_option maxHeartbeats 1000000 in
theorem word_walk (s : ByteArray) (w : World) (hs : s.size ≤ 1000000) :
    Calls Tryz.prog 112 #[.string s] w fun e w' => e = .returned (.bool (wordE s.data.toList)) ∧ w' = w := by
  have hsl : s.data.toList.length = s.size := rfl
  have HSL := Lib.hid hsl
  clear hsl
  go_enter Tryz.func112, Tryz.ntmps112
  go_wp2_with fail
  go_loop [3] (fun v3 => ∃ i : Nat, v3 = .int .i64 (i : Int) ∧ i ≤ s.size ∧ (s.data.toList.take i).all okB = true) (fun v3 => s.size - (intOf v3).toNat)
  case atStart => exact ⟨0, rfl, Nat.zero_le _, rfl⟩
  case round =>
    obtain ⟨i, rfl, hi, ha⟩ := hrel
    have HA := Lib.hid ha
    clear ha
    by_cases hlt : i < s.size
    · obtain ⟨c, hc⟩ : ∃ c, c = s[i] := ⟨_, rfl⟩
      have HCL := Lib.hid (char_at hlt hc)
      have hc' : s[i] = c := hc.symm
      have hc256 : c.toNat < 256 := UInt8.toNat_lt c
      clear hc
      rcases (show (c.toNat < 48 ∧ c.toNat ≠ 46 ∧ c.toNat ≠ 43) ∨ (c.toNat = 46) ∨ (c.toNat = 43) ∨ (48 ≤ c.toNat ∧ c.toNat ≤ 57) ∨ (58 ≤ c.toNat ∧ c.toNat ≤ 64) ∨ (65 ≤ c.toNat ∧ c.toNat ≤ 90) ∨ (91 ≤ c.toNat ∧ c.toNat ≤ 96 ∧ c.toNat ≠ 95 ∧ c.toNat ≠ 94) ∨ (c.toNat = 95) ∨ (c.toNat = 94) ∨ (97 ≤ c.toNat ∧ c.toNat ≤ 122) ∨ (123 ≤ c.toNat ∧ c.toNat ≠ 126) ∨ (c.toNat = 126) by omega) with hcase | hcase | hcase | hcase | hcase | hcase | hcase | hcase | hcase | hcase | hcase | hcase
      · have hc := hcase
        have e46 : ((c.toNat : Int) != 46) = true := by simp; omega
        have e95 : ((c.toNat : Int) != 95) = true := by simp; omega
        have e43 : ((c.toNat : Int) != 43) = true := by simp; omega
        have e126 : ((c.toNat : Int) != 126) = true := by simp; omega
        have e94 : ((c.toNat : Int) != 94) = true := by simp; omega
        have g97 : decide ((97 : Int) ≤ (c.toNat : Int)) = false := by simp; omega
        have g65 : decide ((65 : Int) ≤ (c.toNat : Int)) = false := by simp; omega
        have g48 : decide ((48 : Int) ≤ (c.toNat : Int)) = false := by simp; omega
        have g122 : decide ((c.toNat : Int) ≤ 122) = true := by simp; omega
        have g90 : decide ((c.toNat : Int) ≤ 90) = true := by simp; omega
        have g57 : decide ((c.toNat : Int) ≤ 57) = true := by simp; omega
        have hok : okB c = false := by unfold okB; simp; omega
        obtain ⟨q0, q1, q2⟩ := hcase
        clear hc
        have HN := Lib.hid (word_not HCL.out hok)
        go_wp2_with fail
        all_goals
          go_ret
          exact ⟨by rw [HN.out]; rfl, rfl⟩
      · have hc := hcase
        have e46 : ((c.toNat : Int) != 46) = false := by simp; omega
        have e95 : ((c.toNat : Int) != 95) = true := by simp; omega
        have e43 : ((c.toNat : Int) != 43) = true := by simp; omega
        have e126 : ((c.toNat : Int) != 126) = true := by simp; omega
        have e94 : ((c.toNat : Int) != 94) = true := by simp; omega
        have g97 : decide ((97 : Int) ≤ (c.toNat : Int)) = false := by simp; omega
        have g65 : decide ((65 : Int) ≤ (c.toNat : Int)) = false := by simp; omega
        have g48 : decide ((48 : Int) ≤ (c.toNat : Int)) = false := by simp; omega
        have g122 : decide ((c.toNat : Int) ≤ 122) = true := by simp; omega
        have g90 : decide ((c.toNat : Int) ≤ 90) = true := by simp; omega
        have g57 : decide ((c.toNat : Int) ≤ 57) = true := by simp; omega
        have hok : okB c = true := by unfold okB; simp; omega
        clear hc
        have HT := Lib.hid (take_ok HA.out HCL.out hok)
        go_wp2_with fail
        all_goals
          go_round
          case rel => exact ⟨i + 1, by go_num, by omega, HT.out⟩
          case measure => simp [intOf]; omega
      · have hc := hcase
        have e46 : ((c.toNat : Int) != 46) = true := by simp; omega
        have e95 : ((c.toNat : Int) != 95) = true := by simp; omega
        have e43 : ((c.toNat : Int) != 43) = false := by simp; omega
        have e126 : ((c.toNat : Int) != 126) = true := by simp; omega
        have e94 : ((c.toNat : Int) != 94) = true := by simp; omega
        have g97 : decide ((97 : Int) ≤ (c.toNat : Int)) = false := by simp; omega
        have g65 : decide ((65 : Int) ≤ (c.toNat : Int)) = false := by simp; omega
        have g48 : decide ((48 : Int) ≤ (c.toNat : Int)) = false := by simp; omega
        have g122 : decide ((c.toNat : Int) ≤ 122) = true := by simp; omega
        have g90 : decide ((c.toNat : Int) ≤ 90) = true := by simp; omega
        have g57 : decide ((c.toNat : Int) ≤ 57) = true := by simp; omega
        have hok : okB c = true := by unfold okB; simp; omega
        clear hc
        have HT := Lib.hid (take_ok HA.out HCL.out hok)
        go_wp2_with fail
        all_goals
          go_round
          case rel => exact ⟨i + 1, by go_num, by omega, HT.out⟩
          case measure => simp [intOf]; omega
      · have hc := hcase
        have e46 : ((c.toNat : Int) != 46) = true := by simp; omega
        have e95 : ((c.toNat : Int) != 95) = true := by simp; omega
        have e43 : ((c.toNat : Int) != 43) = true := by simp; omega
        have e126 : ((c.toNat : Int) != 126) = true := by simp; omega
        have e94 : ((c.toNat : Int) != 94) = true := by simp; omega
        have g97 : decide ((97 : Int) ≤ (c.toNat : Int)) = false := by simp; omega
        have g65 : decide ((65 : Int) ≤ (c.toNat : Int)) = false := by simp; omega
        have g48 : decide ((48 : Int) ≤ (c.toNat : Int)) = true := by simp; omega
        have g122 : decide ((c.toNat : Int) ≤ 122) = true := by simp; omega
        have g90 : decide ((c.toNat : Int) ≤ 90) = true := by simp; omega
        have g57 : decide ((c.toNat : Int) ≤ 57) = true := by simp; omega
        have hok : okB c = true := by unfold okB; simp; omega
        obtain ⟨q0, q1⟩ := hcase
        clear hc
        have HT := Lib.hid (take_ok HA.out HCL.out hok)
        go_wp2_with fail
        all_goals
          go_round
          case rel => exact ⟨i + 1, by go_num, by omega, HT.out⟩
          case measure => simp [intOf]; omega
      · have hc := hcase
        have e46 : ((c.toNat : Int) != 46) = true := by simp; omega
        have e95 : ((c.toNat : Int) != 95) = true := by simp; omega
        have e43 : ((c.toNat : Int) != 43) = true := by simp; omega
        have e126 : ((c.toNat : Int) != 126) = true := by simp; omega
        have e94 : ((c.toNat : Int) != 94) = true := by simp; omega
        have g97 : decide ((97 : Int) ≤ (c.toNat : Int)) = false := by simp; omega
        have g65 : decide ((65 : Int) ≤ (c.toNat : Int)) = false := by simp; omega
        have g48 : decide ((48 : Int) ≤ (c.toNat : Int)) = true := by simp; omega
        have g122 : decide ((c.toNat : Int) ≤ 122) = true := by simp; omega
        have g90 : decide ((c.toNat : Int) ≤ 90) = true := by simp; omega
        have g57 : decide ((c.toNat : Int) ≤ 57) = false := by simp; omega
        have hok : okB c = false := by unfold okB; simp; omega
        obtain ⟨q0, q1⟩ := hcase
        clear hc
        have HN := Lib.hid (word_not HCL.out hok)
        go_wp2_with fail
        all_goals
          go_ret
          exact ⟨by rw [HN.out]; rfl, rfl⟩
      · have hc := hcase
        have e46 : ((c.toNat : Int) != 46) = true := by simp; omega
        have e95 : ((c.toNat : Int) != 95) = true := by simp; omega
        have e43 : ((c.toNat : Int) != 43) = true := by simp; omega
        have e126 : ((c.toNat : Int) != 126) = true := by simp; omega
        have e94 : ((c.toNat : Int) != 94) = true := by simp; omega
        have g97 : decide ((97 : Int) ≤ (c.toNat : Int)) = false := by simp; omega
        have g65 : decide ((65 : Int) ≤ (c.toNat : Int)) = true := by simp; omega
        have g48 : decide ((48 : Int) ≤ (c.toNat : Int)) = true := by simp; omega
        have g122 : decide ((c.toNat : Int) ≤ 122) = true := by simp; omega
        have g90 : decide ((c.toNat : Int) ≤ 90) = true := by simp; omega
        have g57 : decide ((c.toNat : Int) ≤ 57) = false := by simp; omega
        have hok : okB c = true := by unfold okB; simp; omega
        obtain ⟨q0, q1⟩ := hcase
        clear hc
        have HT := Lib.hid (take_ok HA.out HCL.out hok)
        go_wp2_with fail
        all_goals
          go_round
          case rel => exact ⟨i + 1, by go_num, by omega, HT.out⟩
          case measure => simp [intOf]; omega
      · have hc := hcase
        have e46 : ((c.toNat : Int) != 46) = true := by simp; omega
        have e95 : ((c.toNat : Int) != 95) = true := by simp; omega
        have e43 : ((c.toNat : Int) != 43) = true := by simp; omega
        have e126 : ((c.toNat : Int) != 126) = true := by simp; omega
        have e94 : ((c.toNat : Int) != 94) = true := by simp; omega
        have g97 : decide ((97 : Int) ≤ (c.toNat : Int)) = false := by simp; omega
        have g65 : decide ((65 : Int) ≤ (c.toNat : Int)) = true := by simp; omega
        have g48 : decide ((48 : Int) ≤ (c.toNat : Int)) = true := by simp; omega
        have g122 : decide ((c.toNat : Int) ≤ 122) = true := by simp; omega
        have g90 : decide ((c.toNat : Int) ≤ 90) = false := by simp; omega
        have g57 : decide ((c.toNat : Int) ≤ 57) = false := by simp; omega
        have hok : okB c = false := by unfold okB; simp; omega
        obtain ⟨q0, q1, q2, q3⟩ := hcase
        clear hc
        have HN := Lib.hid (word_not HCL.out hok)
        go_wp2_with fail
        all_goals
          go_ret
          exact ⟨by rw [HN.out]; rfl, rfl⟩
      · have hc := hcase
        have e46 : ((c.toNat : Int) != 46) = true := by simp; omega
        have e95 : ((c.toNat : Int) != 95) = false := by simp; omega
        have e43 : ((c.toNat : Int) != 43) = true := by simp; omega
        have e126 : ((c.toNat : Int) != 126) = true := by simp; omega
        have e94 : ((c.toNat : Int) != 94) = true := by simp; omega
        have g97 : decide ((97 : Int) ≤ (c.toNat : Int)) = false := by simp; omega
        have g65 : decide ((65 : Int) ≤ (c.toNat : Int)) = true := by simp; omega
        have g48 : decide ((48 : Int) ≤ (c.toNat : Int)) = true := by simp; omega
        have g122 : decide ((c.toNat : Int) ≤ 122) = true := by simp; omega
        have g90 : decide ((c.toNat : Int) ≤ 90) = false := by simp; omega
        have g57 : decide ((c.toNat : Int) ≤ 57) = false := by simp; omega
        have hok : okB c = true := by unfold okB; simp; omega
        clear hc
        have HT := Lib.hid (take_ok HA.out HCL.out hok)
        go_wp2_with fail
        all_goals
          go_round
          case rel => exact ⟨i + 1, by go_num, by omega, HT.out⟩
          case measure => simp [intOf]; omega
      · have hc := hcase
        have e46 : ((c.toNat : Int) != 46) = true := by simp; omega
        have e95 : ((c.toNat : Int) != 95) = true := by simp; omega
        have e43 : ((c.toNat : Int) != 43) = true := by simp; omega
        have e126 : ((c.toNat : Int) != 126) = true := by simp; omega
        have e94 : ((c.toNat : Int) != 94) = false := by simp; omega
        have g97 : decide ((97 : Int) ≤ (c.toNat : Int)) = false := by simp; omega
        have g65 : decide ((65 : Int) ≤ (c.toNat : Int)) = true := by simp; omega
        have g48 : decide ((48 : Int) ≤ (c.toNat : Int)) = true := by simp; omega
        have g122 : decide ((c.toNat : Int) ≤ 122) = true := by simp; omega
        have g90 : decide ((c.toNat : Int) ≤ 90) = false := by simp; omega
        have g57 : decide ((c.toNat : Int) ≤ 57) = false := by simp; omega
        have hok : okB c = true := by unfold okB; simp; omega
        clear hc
        have HT := Lib.hid (take_ok HA.out HCL.out hok)
        go_wp2_with fail
        all_goals
          go_round
          case rel => exact ⟨i + 1, by go_num, by omega, HT.out⟩
          case measure => simp [intOf]; omega
      · have hc := hcase
        have e46 : ((c.toNat : Int) != 46) = true := by simp; omega
        have e95 : ((c.toNat : Int) != 95) = true := by simp; omega
        have e43 : ((c.toNat : Int) != 43) = true := by simp; omega
        have e126 : ((c.toNat : Int) != 126) = true := by simp; omega
        have e94 : ((c.toNat : Int) != 94) = true := by simp; omega
        have g97 : decide ((97 : Int) ≤ (c.toNat : Int)) = true := by simp; omega
        have g65 : decide ((65 : Int) ≤ (c.toNat : Int)) = true := by simp; omega
        have g48 : decide ((48 : Int) ≤ (c.toNat : Int)) = true := by simp; omega
        have g122 : decide ((c.toNat : Int) ≤ 122) = true := by simp; omega
        have g90 : decide ((c.toNat : Int) ≤ 90) = false := by simp; omega
        have g57 : decide ((c.toNat : Int) ≤ 57) = false := by simp; omega
        have hok : okB c = true := by unfold okB; simp; omega
        obtain ⟨q0, q1⟩ := hcase
        clear hc
        have HT := Lib.hid (take_ok HA.out HCL.out hok)
        go_wp2_with fail
        all_goals
          go_round
          case rel => exact ⟨i + 1, by go_num, by omega, HT.out⟩
          case measure => simp [intOf]; omega
      · have hc := hcase
        have e46 : ((c.toNat : Int) != 46) = true := by simp; omega
        have e95 : ((c.toNat : Int) != 95) = true := by simp; omega
        have e43 : ((c.toNat : Int) != 43) = true := by simp; omega
        have e126 : ((c.toNat : Int) != 126) = true := by simp; omega
        have e94 : ((c.toNat : Int) != 94) = true := by simp; omega
        have g97 : decide ((97 : Int) ≤ (c.toNat : Int)) = true := by simp; omega
        have g65 : decide ((65 : Int) ≤ (c.toNat : Int)) = true := by simp; omega
        have g48 : decide ((48 : Int) ≤ (c.toNat : Int)) = true := by simp; omega
        have g122 : decide ((c.toNat : Int) ≤ 122) = false := by simp; omega
        have g90 : decide ((c.toNat : Int) ≤ 90) = false := by simp; omega
        have g57 : decide ((c.toNat : Int) ≤ 57) = false := by simp; omega
        have hok : okB c = false := by unfold okB; simp; omega
        obtain ⟨q0, q1⟩ := hcase
        clear hc
        have HN := Lib.hid (word_not HCL.out hok)
        go_wp2_with fail
        all_goals
          go_ret
          exact ⟨by rw [HN.out]; rfl, rfl⟩
      · have hc := hcase
        have e46 : ((c.toNat : Int) != 46) = true := by simp; omega
        have e95 : ((c.toNat : Int) != 95) = true := by simp; omega
        have e43 : ((c.toNat : Int) != 43) = true := by simp; omega
        have e126 : ((c.toNat : Int) != 126) = false := by simp; omega
        have e94 : ((c.toNat : Int) != 94) = true := by simp; omega
        have g97 : decide ((97 : Int) ≤ (c.toNat : Int)) = true := by simp; omega
        have g65 : decide ((65 : Int) ≤ (c.toNat : Int)) = true := by simp; omega
        have g48 : decide ((48 : Int) ≤ (c.toNat : Int)) = true := by simp; omega
        have g122 : decide ((c.toNat : Int) ≤ 122) = false := by simp; omega
        have g90 : decide ((c.toNat : Int) ≤ 90) = false := by simp; omega
        have g57 : decide ((c.toNat : Int) ≤ 57) = false := by simp; omega
        have hok : okB c = true := by unfold okB; simp; omega
        clear hc
        have HT := Lib.hid (take_ok HA.out HCL.out hok)
        go_wp2_with fail
        all_goals
          go_round
          case rel => exact ⟨i + 1, by go_num, by omega, HT.out⟩
          case measure => simp [intOf]; omega
    · have e : i = s.size := by omega
      have HF := Lib.hid (show wordE s.data.toList = (decide (1 ≤ s.size) && decide (s.size ≤ 64)) by
        unfold wordE
        have h := HA.out
        rw [e, ← HSL.out, List.take_length] at h
        rw [h, HSL.out]
        simp)
      by_cases h1 : 1 ≤ s.size
      · by_cases h2 : s.size ≤ 64
        · have g1 : decide ((1 : Int) ≤ (s.size : Int)) = true := by simp; omega
          have g2 : decide ((s.size : Int) ≤ 64) = true := by simp; omega
          have HG := Lib.hid (show (decide (1 ≤ s.size) && decide (s.size ≤ 64)) = true by simp [h1, h2])
          go_wp2_with fail
          go_ret
          exact ⟨by rw [HF.out, HG.out]; rfl, rfl⟩
        · have g1 : decide ((1 : Int) ≤ (s.size : Int)) = true := by simp; omega
          have g2 : decide ((s.size : Int) ≤ 64) = false := by simp; omega
          have HG := Lib.hid (show (decide (1 ≤ s.size) && decide (s.size ≤ 64)) = false by simp [h2])
          go_wp2_with fail
          go_ret
          exact ⟨by rw [HF.out, HG.out]; rfl, rfl⟩
      · have g1 : decide ((1 : Int) ≤ (s.size : Int)) = false := by simp; omega
        have HG := Lib.hid (show (decide (1 ≤ s.size) && decide (s.size ≤ 64)) = false by simp [h1])
        go_wp2_with fail
        go_ret
        exact ⟨by rw [HF.out, HG.out]; rfl, rfl⟩
end Go.Proofs.YtlpalepkomkngaaGreatDoor

namespace Go.Proofs.YtlpalepkomkngaaGreatDoor
open Go.RowKit Ver Evr

/-- An EVR. -/
theorem may_low {n : Int} {v r : ByteArray} {dep : Bool} (h : n < 0 ∨ 2147483647 < n) : mayE (evrE n v r) dep = false := by
  unfold mayE evrE
  rcases h with h | h
  · simp [show ¬ 0 ≤ n by omega]
  · simp [show ¬ n ≤ 2147483647 by omega]
theorem may_ver {n : Int} {v r : ByteArray} {dep : Bool} (h : wordE v.data.toList = false) : mayE (evrE n v r) dep = false := by unfold mayE evrE; simp [h]
theorem may_dep {n : Int} {v : ByteArray} {dep : Bool} (h0 : 0 ≤ n) (h1 : n ≤ 2147483647) (h : wordE v.data.toList = true) : mayE (evrE n v ⟨#[]⟩) dep = dep := by unfold mayE evrE; simp [h, h0, h1]
theorem may_rel {n : Int} {v r : ByteArray} {dep : Bool} (h0 : 0 ≤ n) (h1 : n ≤ 2147483647) (h : wordE v.data.toList = true) (hr : r ≠ ⟨#[]⟩) : mayE (evrE n v r) dep = wordE r.data.toList := by
  unfold mayE evrE
  simp only [h, h0, h1, decide_true, Bool.true_and, if_neg (fun e => hr (empty_text.1 e))]

set_option maxRecDepth 100000 in
set_option maxHeartbeats 1000000 in
theorem may_walk (n : Int) (v r : ByteArray) (dep : Bool) (w : World) (hv : v.size ≤ 1000000) (hr : r.size ≤ 1000000) :
    Calls Tryz.prog 89 #[evrV n v r, .bool dep] w fun e w' => e = .returned (.bool (mayE (evrE n v r) dep)) ∧ Kept (fun _ => False) w w' := by
  unfold evrV
  have W1 := fun w => word_walk v w hv
  have W2 := fun w => word_walk r w hr
  by_cases h0 : n < 0
  · have HN := Lib.hid (@may_low n v r dep (.inl h0))
    have g0 : decide (n < 0) = true := by simp [h0]
    clear h0
    go_enter Tryz.func89, Tryz.ntmps89
    go_wp2_with fail
    go_ret
    exact ⟨by rw [HN.out]; rfl, (Kept.refl _ _).alloc _⟩
  · by_cases h1 : 2147483647 < n
    · have HN := Lib.hid (@may_low n v r dep (.inr h1))
      have g0 : decide (n < 0) = false := by simp; omega
      have g1 : decide (2147483647 < n) = true := by simp [h1]
      clear h1 h0
      go_enter Tryz.func89, Tryz.ntmps89
      go_wp2_with fail
      go_ret
      exact ⟨by rw [HN.out]; rfl, (Kept.refl _ _).alloc _⟩
    · have g0 : decide (n < 0) = false := by simp; omega
      have g1 : decide (2147483647 < n) = false := by simp; omega
      by_cases hw : wordE v.data.toList = true
      · by_cases hr0 : r = ⟨#[]⟩
        · subst hr0
          have HN := Lib.hid (@may_dep n v dep (by omega) (by omega) hw)
          rw [hw] at W1
          clear h1 h0 hw
          go_enter Tryz.func89, Tryz.ntmps89
          go_wp2_with (first | (go_at_call 112; with_reducible refine (W1 _).mono ?_; rintro e w1 ⟨rfl, rfl⟩) | fail)
          go_ret
          exact ⟨by rw [HN.out]; rfl, (Kept.refl _ _).alloc _⟩
        · have HN := Lib.hid (@may_rel n v r dep (by omega) (by omega) hw hr0)
          obtain ⟨b1, b2⟩ := text_ne hr0
          rw [hw] at W1
          clear h1 h0 hw hr0
          go_enter Tryz.func89, Tryz.ntmps89
          go_wp2_with (first | (go_at_call 112; (first | (with_reducible refine (W1 _).mono ?_) | (with_reducible refine (W2 _).mono ?_)); rintro e w1 ⟨rfl, rfl⟩) | fail)
          go_ret
          exact ⟨by rw [HN.out]; rfl, (Kept.refl _ _).alloc _⟩
      · have hw' : wordE v.data.toList = false := by simpa using hw
        have HN := Lib.hid (@may_ver n v r dep hw')
        rw [hw'] at W1
        clear h1 h0 hw hw'
        go_enter Tryz.func89, Tryz.ntmps89
        go_wp2_with (first | (go_at_call 112; with_reducible refine (W1 _).mono ?_; rintro e w1 ⟨rfl, rfl⟩) | fail)
        go_ret
        exact ⟨by rw [HN.out]; rfl, (Kept.refl _ _).alloc _⟩

/-- What cut answers. -/
def CutR (s : ByteArray) (c : UInt8) (e : Ending) : Prop := ∃ x y z, e = .returned (.tuple #[.string x, .string y, .bool z]) ∧ cut c s.data.toList = (x.data.toList, y.data.toList, z) ∧ x.size ≤ s.size ∧ y.size ≤ s.size
theorem cut_step {c b : UInt8} {x y : List UInt8} (hx : ∀ z ∈ x, z ≠ c) (h : b = c) : cut c (x ++ b :: y) = (x, y, true) := by rw [h]; exact cut_at c x y hx
end Go.Proofs.YtlpalepkomkngaaGreatDoor
