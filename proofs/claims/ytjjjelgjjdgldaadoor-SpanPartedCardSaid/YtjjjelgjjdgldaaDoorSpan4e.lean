/-
  The walks over the program's own text of layer 4: two ranges that meet. Conditions: as each theorem states.
-/
import Derived.Test.YtjjjelgjjdgldaaDoorSpan4d
namespace Go.Proofs.YtjjjelgjjdgldaaDoor
open Go.RowKit Go.Maps Span Evr

section
variable (nm : ByteArray) (o : Nat) (n : Int) (v r : ByteArray) (nb : ByteArray) (k : Nat) (m : Int) (u x : ByteArray) (w : World) (ho : o < 256) (hk : k < 256)
include ho hk
omit hk in
set_option maxRecDepth 100000 in
set_option maxHeartbeats 1000000 in
theorem meet_any1 (h : o % 8 = 0) : Calls Tryd.prog 18 #[depV nm o n v r, depV nb k m u x] w fun e w' => e = .returned (.bool (true)) ∧ Kept (fun _ => False) w w' := by
  have A1 := any_yes nm o n v r ho h
  have A2 := A1
  have hk0 : Kept (fun _ => False) w ((w.alloc (.cells #[.string nm, .int .u8 (o : Int), .int .i64 n, .string v, .string r] 31)).alloc (.cells #[.string nb, .int .u8 (k : Int), .int .i64 m, .string u, .string x] 31)) := ((Kept.refl _ _).alloc _).alloc _
  have HK := Lib.hid hk0
  have bA := (Box.made w 31 #[.string nm, .int .u8 (o : Int), .int .i64 n, .string v, .string r]).after_alloc (.cells #[.string nb, .int .u8 (k : Int), .int .i64 m, .string u, .string x] 31)
  have bB := Box.made (w.alloc (.cells #[.string nm, .int .u8 (o : Int), .int .i64 n, .string v, .string r] 31)) 31 #[.string nb, .int .u8 (k : Int), .int .i64 m, .string u, .string x]
  rw [World.size_alloc] at bB
  have HA := Lib.hid bA
  have HB := Lib.hid bB
  clear hk0 bA bB
  go_enter Tryd.func18, Tryd.ntmps18
  go_wp2_with (first
    | (go_at_call 26; (first | with_reducible refine (A1 _).mono ?_ | with_reducible refine (A2 _).mono ?_); rintro e w5 ⟨rfl, hk5⟩; have HA := Lib.hid (hk5.box HA.out (fun h => h)); have HB := Lib.hid (hk5.box HB.out (fun h => h)); have a0 := HA.out.cell 0; have b0 := HB.out.cell 0; have a1 := HA.out.cell 1; have b1 := HB.out.cell 1; have a2 := HA.out.cell 2; have b2 := HB.out.cell 2; have a3 := HA.out.cell 3; have b3 := HB.out.cell 3; have a4 := HA.out.cell 4; have b4 := HB.out.cell 4; have HK := Lib.hid (Kept.trans HK.out hk5 (fun _ _ h => h)); clear hk5)
    | fail)
  go_ret
  exact ⟨rfl, HK.out⟩
set_option maxRecDepth 100000 in
set_option maxHeartbeats 1000000 in
theorem meet_any2 (h : o % 8 ≠ 0) (h2 : k % 8 = 0) : Calls Tryd.prog 18 #[depV nm o n v r, depV nb k m u x] w fun e w' => e = .returned (.bool (true)) ∧ Kept (fun _ => False) w w' := by
  have A1 := any_no nm o n v r ho h
  have A2 := any_yes nb k m u x hk h2
  have hk0 : Kept (fun _ => False) w ((w.alloc (.cells #[.string nm, .int .u8 (o : Int), .int .i64 n, .string v, .string r] 31)).alloc (.cells #[.string nb, .int .u8 (k : Int), .int .i64 m, .string u, .string x] 31)) := ((Kept.refl _ _).alloc _).alloc _
  have HK := Lib.hid hk0
  have bA := (Box.made w 31 #[.string nm, .int .u8 (o : Int), .int .i64 n, .string v, .string r]).after_alloc (.cells #[.string nb, .int .u8 (k : Int), .int .i64 m, .string u, .string x] 31)
  have bB := Box.made (w.alloc (.cells #[.string nm, .int .u8 (o : Int), .int .i64 n, .string v, .string r] 31)) 31 #[.string nb, .int .u8 (k : Int), .int .i64 m, .string u, .string x]
  rw [World.size_alloc] at bB
  have HA := Lib.hid bA
  have HB := Lib.hid bB
  clear hk0 bA bB
  go_enter Tryd.func18, Tryd.ntmps18
  go_wp2_with (first
    | (go_at_call 26; (first | with_reducible refine (A1 _).mono ?_ | with_reducible refine (A2 _).mono ?_); rintro e w5 ⟨rfl, hk5⟩; have HA := Lib.hid (hk5.box HA.out (fun h => h)); have HB := Lib.hid (hk5.box HB.out (fun h => h)); have a0 := HA.out.cell 0; have b0 := HB.out.cell 0; have a1 := HA.out.cell 1; have b1 := HB.out.cell 1; have a2 := HA.out.cell 2; have b2 := HB.out.cell 2; have a3 := HA.out.cell 3; have b3 := HB.out.cell 3; have a4 := HA.out.cell 4; have b4 := HB.out.cell 4; have HK := Lib.hid (Kept.trans HK.out hk5 (fun _ _ h => h)); clear hk5)
    | fail)
  go_ret
  exact ⟨rfl, HK.out⟩
set_option maxRecDepth 100000 in
set_option maxHeartbeats 1000000 in
theorem meet_less1 (h : o % 8 ≠ 0) (h2 : k % 8 ≠ 0) (q : bits .and .u8 (o : Int) 4 = 4) (C1 : ∀ W, Calls Tryd.prog 22 #[.agg #[.int .i64 n, .string v, .string r], .agg #[.int .i64 m, .string u, .string x]] W fun e w' => e = .returned (.int .i64 (-1)) ∧ Kept (fun _ => False) W w') : Calls Tryd.prog 18 #[depV nm o n v r, depV nb k m u x] w fun e w' => e = .returned (.bool (true)) ∧ Kept (fun _ => False) w w' := by
  have A1 := any_no nm o n v r ho h
  have A2 := any_no nb k m u x hk h2
  have hk0 : Kept (fun _ => False) w ((w.alloc (.cells #[.string nm, .int .u8 (o : Int), .int .i64 n, .string v, .string r] 31)).alloc (.cells #[.string nb, .int .u8 (k : Int), .int .i64 m, .string u, .string x] 31)) := ((Kept.refl _ _).alloc _).alloc _
  have HK := Lib.hid hk0
  have bA := (Box.made w 31 #[.string nm, .int .u8 (o : Int), .int .i64 n, .string v, .string r]).after_alloc (.cells #[.string nb, .int .u8 (k : Int), .int .i64 m, .string u, .string x] 31)
  have bB := Box.made (w.alloc (.cells #[.string nm, .int .u8 (o : Int), .int .i64 n, .string v, .string r] 31)) 31 #[.string nb, .int .u8 (k : Int), .int .i64 m, .string u, .string x]
  rw [World.size_alloc] at bB
  have HA := Lib.hid bA
  have HB := Lib.hid bB
  clear hk0 bA bB
  go_enter Tryd.func18, Tryd.ntmps18
  go_wp2_with (first
    | (go_at_call 26; (first | with_reducible refine (A1 _).mono ?_ | with_reducible refine (A2 _).mono ?_); rintro e w5 ⟨rfl, hk5⟩; have HA := Lib.hid (hk5.box HA.out (fun h => h)); have HB := Lib.hid (hk5.box HB.out (fun h => h)); have a0 := HA.out.cell 0; have b0 := HB.out.cell 0; have a1 := HA.out.cell 1; have b1 := HB.out.cell 1; have a2 := HA.out.cell 2; have b2 := HB.out.cell 2; have a3 := HA.out.cell 3; have b3 := HB.out.cell 3; have a4 := HA.out.cell 4; have b4 := HB.out.cell 4; have HK := Lib.hid (Kept.trans HK.out hk5 (fun _ _ h => h)); clear hk5)
    | (go_at_call 22; with_reducible refine (C1 _).mono ?_; rintro e w5 ⟨rfl, hk5⟩; have HA := Lib.hid (hk5.box HA.out (fun h => h)); have HB := Lib.hid (hk5.box HB.out (fun h => h)); have a0 := HA.out.cell 0; have b0 := HB.out.cell 0; have a1 := HA.out.cell 1; have b1 := HB.out.cell 1; have a2 := HA.out.cell 2; have b2 := HB.out.cell 2; have a3 := HA.out.cell 3; have b3 := HB.out.cell 3; have a4 := HA.out.cell 4; have b4 := HB.out.cell 4; have HK := Lib.hid (Kept.trans HK.out hk5 (fun _ _ h => h)); clear hk5)
    | fail)
  go_ret
  exact ⟨rfl, HK.out⟩
set_option maxRecDepth 100000 in
set_option maxHeartbeats 1000000 in
theorem meet_less0 (h : o % 8 ≠ 0) (h2 : k % 8 ≠ 0) (q : bits .and .u8 (o : Int) 4 = 0) (C1 : ∀ W, Calls Tryd.prog 22 #[.agg #[.int .i64 n, .string v, .string r], .agg #[.int .i64 m, .string u, .string x]] W fun e w' => e = .returned (.int .i64 (-1)) ∧ Kept (fun _ => False) W w') : Calls Tryd.prog 18 #[depV nm o n v r, depV nb k m u x] w fun e w' => e = .returned (.bool (bits .and .u8 (k : Int) 1 != 0)) ∧ Kept (fun _ => False) w w' := by
  have A1 := any_no nm o n v r ho h
  have A2 := any_no nb k m u x hk h2
  have hk0 : Kept (fun _ => False) w ((w.alloc (.cells #[.string nm, .int .u8 (o : Int), .int .i64 n, .string v, .string r] 31)).alloc (.cells #[.string nb, .int .u8 (k : Int), .int .i64 m, .string u, .string x] 31)) := ((Kept.refl _ _).alloc _).alloc _
  have HK := Lib.hid hk0
  have bA := (Box.made w 31 #[.string nm, .int .u8 (o : Int), .int .i64 n, .string v, .string r]).after_alloc (.cells #[.string nb, .int .u8 (k : Int), .int .i64 m, .string u, .string x] 31)
  have bB := Box.made (w.alloc (.cells #[.string nm, .int .u8 (o : Int), .int .i64 n, .string v, .string r] 31)) 31 #[.string nb, .int .u8 (k : Int), .int .i64 m, .string u, .string x]
  rw [World.size_alloc] at bB
  have HA := Lib.hid bA
  have HB := Lib.hid bB
  clear hk0 bA bB
  go_enter Tryd.func18, Tryd.ntmps18
  go_wp2_with (first
    | (go_at_call 26; (first | with_reducible refine (A1 _).mono ?_ | with_reducible refine (A2 _).mono ?_); rintro e w5 ⟨rfl, hk5⟩; have HA := Lib.hid (hk5.box HA.out (fun h => h)); have HB := Lib.hid (hk5.box HB.out (fun h => h)); have a0 := HA.out.cell 0; have b0 := HB.out.cell 0; have a1 := HA.out.cell 1; have b1 := HB.out.cell 1; have a2 := HA.out.cell 2; have b2 := HB.out.cell 2; have a3 := HA.out.cell 3; have b3 := HB.out.cell 3; have a4 := HA.out.cell 4; have b4 := HB.out.cell 4; have HK := Lib.hid (Kept.trans HK.out hk5 (fun _ _ h => h)); clear hk5)
    | (go_at_call 22; with_reducible refine (C1 _).mono ?_; rintro e w5 ⟨rfl, hk5⟩; have HA := Lib.hid (hk5.box HA.out (fun h => h)); have HB := Lib.hid (hk5.box HB.out (fun h => h)); have a0 := HA.out.cell 0; have b0 := HB.out.cell 0; have a1 := HA.out.cell 1; have b1 := HB.out.cell 1; have a2 := HA.out.cell 2; have b2 := HB.out.cell 2; have a3 := HA.out.cell 3; have b3 := HB.out.cell 3; have a4 := HA.out.cell 4; have b4 := HB.out.cell 4; have HK := Lib.hid (Kept.trans HK.out hk5 (fun _ _ h => h)); clear hk5)
    | fail)
  go_ret
  exact ⟨rfl, HK.out⟩
set_option maxRecDepth 100000 in
set_option maxHeartbeats 1000000 in
theorem meet_more1 (h : o % 8 ≠ 0) (h2 : k % 8 ≠ 0) (q : bits .and .u8 (o : Int) 1 = 1) (C1 : ∀ W, Calls Tryd.prog 22 #[.agg #[.int .i64 n, .string v, .string r], .agg #[.int .i64 m, .string u, .string x]] W fun e w' => e = .returned (.int .i64 (1)) ∧ Kept (fun _ => False) W w') : Calls Tryd.prog 18 #[depV nm o n v r, depV nb k m u x] w fun e w' => e = .returned (.bool (true)) ∧ Kept (fun _ => False) w w' := by
  have A1 := any_no nm o n v r ho h
  have A2 := any_no nb k m u x hk h2
  have hk0 : Kept (fun _ => False) w ((w.alloc (.cells #[.string nm, .int .u8 (o : Int), .int .i64 n, .string v, .string r] 31)).alloc (.cells #[.string nb, .int .u8 (k : Int), .int .i64 m, .string u, .string x] 31)) := ((Kept.refl _ _).alloc _).alloc _
  have HK := Lib.hid hk0
  have bA := (Box.made w 31 #[.string nm, .int .u8 (o : Int), .int .i64 n, .string v, .string r]).after_alloc (.cells #[.string nb, .int .u8 (k : Int), .int .i64 m, .string u, .string x] 31)
  have bB := Box.made (w.alloc (.cells #[.string nm, .int .u8 (o : Int), .int .i64 n, .string v, .string r] 31)) 31 #[.string nb, .int .u8 (k : Int), .int .i64 m, .string u, .string x]
  rw [World.size_alloc] at bB
  have HA := Lib.hid bA
  have HB := Lib.hid bB
  clear hk0 bA bB
  go_enter Tryd.func18, Tryd.ntmps18
  go_wp2_with (first
    | (go_at_call 26; (first | with_reducible refine (A1 _).mono ?_ | with_reducible refine (A2 _).mono ?_); rintro e w5 ⟨rfl, hk5⟩; have HA := Lib.hid (hk5.box HA.out (fun h => h)); have HB := Lib.hid (hk5.box HB.out (fun h => h)); have a0 := HA.out.cell 0; have b0 := HB.out.cell 0; have a1 := HA.out.cell 1; have b1 := HB.out.cell 1; have a2 := HA.out.cell 2; have b2 := HB.out.cell 2; have a3 := HA.out.cell 3; have b3 := HB.out.cell 3; have a4 := HA.out.cell 4; have b4 := HB.out.cell 4; have HK := Lib.hid (Kept.trans HK.out hk5 (fun _ _ h => h)); clear hk5)
    | (go_at_call 22; with_reducible refine (C1 _).mono ?_; rintro e w5 ⟨rfl, hk5⟩; have HA := Lib.hid (hk5.box HA.out (fun h => h)); have HB := Lib.hid (hk5.box HB.out (fun h => h)); have a0 := HA.out.cell 0; have b0 := HB.out.cell 0; have a1 := HA.out.cell 1; have b1 := HB.out.cell 1; have a2 := HA.out.cell 2; have b2 := HB.out.cell 2; have a3 := HA.out.cell 3; have b3 := HB.out.cell 3; have a4 := HA.out.cell 4; have b4 := HB.out.cell 4; have HK := Lib.hid (Kept.trans HK.out hk5 (fun _ _ h => h)); clear hk5)
    | fail)
  go_ret
  exact ⟨rfl, HK.out⟩
set_option maxRecDepth 100000 in
set_option maxHeartbeats 1000000 in
theorem meet_more0 (h : o % 8 ≠ 0) (h2 : k % 8 ≠ 0) (q : bits .and .u8 (o : Int) 1 = 0) (C1 : ∀ W, Calls Tryd.prog 22 #[.agg #[.int .i64 n, .string v, .string r], .agg #[.int .i64 m, .string u, .string x]] W fun e w' => e = .returned (.int .i64 (1)) ∧ Kept (fun _ => False) W w') : Calls Tryd.prog 18 #[depV nm o n v r, depV nb k m u x] w fun e w' => e = .returned (.bool (bits .and .u8 (k : Int) 4 != 0)) ∧ Kept (fun _ => False) w w' := by
  have A1 := any_no nm o n v r ho h
  have A2 := any_no nb k m u x hk h2
  have hk0 : Kept (fun _ => False) w ((w.alloc (.cells #[.string nm, .int .u8 (o : Int), .int .i64 n, .string v, .string r] 31)).alloc (.cells #[.string nb, .int .u8 (k : Int), .int .i64 m, .string u, .string x] 31)) := ((Kept.refl _ _).alloc _).alloc _
  have HK := Lib.hid hk0
  have bA := (Box.made w 31 #[.string nm, .int .u8 (o : Int), .int .i64 n, .string v, .string r]).after_alloc (.cells #[.string nb, .int .u8 (k : Int), .int .i64 m, .string u, .string x] 31)
  have bB := Box.made (w.alloc (.cells #[.string nm, .int .u8 (o : Int), .int .i64 n, .string v, .string r] 31)) 31 #[.string nb, .int .u8 (k : Int), .int .i64 m, .string u, .string x]
  rw [World.size_alloc] at bB
  have HA := Lib.hid bA
  have HB := Lib.hid bB
  clear hk0 bA bB
  go_enter Tryd.func18, Tryd.ntmps18
  go_wp2_with (first
    | (go_at_call 26; (first | with_reducible refine (A1 _).mono ?_ | with_reducible refine (A2 _).mono ?_); rintro e w5 ⟨rfl, hk5⟩; have HA := Lib.hid (hk5.box HA.out (fun h => h)); have HB := Lib.hid (hk5.box HB.out (fun h => h)); have a0 := HA.out.cell 0; have b0 := HB.out.cell 0; have a1 := HA.out.cell 1; have b1 := HB.out.cell 1; have a2 := HA.out.cell 2; have b2 := HB.out.cell 2; have a3 := HA.out.cell 3; have b3 := HB.out.cell 3; have a4 := HA.out.cell 4; have b4 := HB.out.cell 4; have HK := Lib.hid (Kept.trans HK.out hk5 (fun _ _ h => h)); clear hk5)
    | (go_at_call 22; with_reducible refine (C1 _).mono ?_; rintro e w5 ⟨rfl, hk5⟩; have HA := Lib.hid (hk5.box HA.out (fun h => h)); have HB := Lib.hid (hk5.box HB.out (fun h => h)); have a0 := HA.out.cell 0; have b0 := HB.out.cell 0; have a1 := HA.out.cell 1; have b1 := HB.out.cell 1; have a2 := HA.out.cell 2; have b2 := HB.out.cell 2; have a3 := HA.out.cell 3; have b3 := HB.out.cell 3; have a4 := HA.out.cell 4; have b4 := HB.out.cell 4; have HK := Lib.hid (Kept.trans HK.out hk5 (fun _ _ h => h)); clear hk5)
    | fail)
  go_ret
  exact ⟨rfl, HK.out⟩
set_option maxRecDepth 100000 in
set_option maxHeartbeats 1000000 in
theorem meet_same (h : o % 8 ≠ 0) (h2 : k % 8 ≠ 0) (C1 : ∀ W, Calls Tryd.prog 22 #[.agg #[.int .i64 n, .string v, .string r], .agg #[.int .i64 m, .string u, .string x]] W fun e w' => e = .returned (.int .i64 (0)) ∧ Kept (fun _ => False) W w') : Calls Tryd.prog 18 #[depV nm o n v r, depV nb k m u x] w fun e w' => e = .returned (.bool (bits .and .u8 (bits .and .u8 (o : Int) (k : Int)) 7 != 0)) ∧ Kept (fun _ => False) w w' := by
  have A1 := any_no nm o n v r ho h
  have A2 := any_no nb k m u x hk h2
  have hk0 : Kept (fun _ => False) w ((w.alloc (.cells #[.string nm, .int .u8 (o : Int), .int .i64 n, .string v, .string r] 31)).alloc (.cells #[.string nb, .int .u8 (k : Int), .int .i64 m, .string u, .string x] 31)) := ((Kept.refl _ _).alloc _).alloc _
  have HK := Lib.hid hk0
  have bA := (Box.made w 31 #[.string nm, .int .u8 (o : Int), .int .i64 n, .string v, .string r]).after_alloc (.cells #[.string nb, .int .u8 (k : Int), .int .i64 m, .string u, .string x] 31)
  have bB := Box.made (w.alloc (.cells #[.string nm, .int .u8 (o : Int), .int .i64 n, .string v, .string r] 31)) 31 #[.string nb, .int .u8 (k : Int), .int .i64 m, .string u, .string x]
  rw [World.size_alloc] at bB
  have HA := Lib.hid bA
  have HB := Lib.hid bB
  clear hk0 bA bB
  go_enter Tryd.func18, Tryd.ntmps18
  go_wp2_with (first
    | (go_at_call 26; (first | with_reducible refine (A1 _).mono ?_ | with_reducible refine (A2 _).mono ?_); rintro e w5 ⟨rfl, hk5⟩; have HA := Lib.hid (hk5.box HA.out (fun h => h)); have HB := Lib.hid (hk5.box HB.out (fun h => h)); have a0 := HA.out.cell 0; have b0 := HB.out.cell 0; have a1 := HA.out.cell 1; have b1 := HB.out.cell 1; have a2 := HA.out.cell 2; have b2 := HB.out.cell 2; have a3 := HA.out.cell 3; have b3 := HB.out.cell 3; have a4 := HA.out.cell 4; have b4 := HB.out.cell 4; have HK := Lib.hid (Kept.trans HK.out hk5 (fun _ _ h => h)); clear hk5)
    | (go_at_call 22; with_reducible refine (C1 _).mono ?_; rintro e w5 ⟨rfl, hk5⟩; have HA := Lib.hid (hk5.box HA.out (fun h => h)); have HB := Lib.hid (hk5.box HB.out (fun h => h)); have a0 := HA.out.cell 0; have b0 := HB.out.cell 0; have a1 := HA.out.cell 1; have b1 := HB.out.cell 1; have a2 := HA.out.cell 2; have b2 := HB.out.cell 2; have a3 := HA.out.cell 3; have b3 := HB.out.cell 3; have a4 := HA.out.cell 4; have b4 := HB.out.cell 4; have HK := Lib.hid (Kept.trans HK.out hk5 (fun _ _ h => h)); clear hk5)
    | fail)
  go_ret
  exact ⟨rfl, HK.out⟩
theorem meet_k (hv : v.size ≤ 1000000) (hr : r.size ≤ 1000000) (hu : u.size ≤ 1000000) (hx : x.size ≤ 1000000) : Calls Tryd.prog 18 #[depV nm o n v r, depV nb k m u x] w fun e w' => e = .returned (.bool (meetO o k (cmpE (evrE n v r) (evrE m u x)))) ∧ Kept (fun _ => False) w w' := by
  have hC := fun W => compareK_walk n m v r u x W hv hr hu hx
  have h3 := three (e_range (evrE n v r) (evrE m u x))
  by_cases h : o % 8 = 0
  · have e : ∀ c, meetO o k c = true := fun c => by unfold meetO; simp [h]
    rw [e]
    exact meet_any1 nm o n v r nb k m u x w ho h
  · have h0 : (o % 8 == 0) = false := by simp [h]
    by_cases h2 : k % 8 = 0
    · have e : ∀ c, meetO o k c = true := fun c => by unfold meetO; simp [h2]
      rw [e]
      exact meet_any2 nm o n v r nb k m u x w ho hk h h2
    · have h4 : (k % 8 == 0) = false := by simp [h2]
      rcases h3 with h3 | h3 | h3
      · rw [h3] at hC ⊢
        by_cases q : o / 4 % 2 = 1
        · have e : meetO o k (-1) = true := by simp [meetO, q]
          rw [e]
          exact meet_less1 nm o n v r nb k m u x w ho hk h h2 (by rw [bit_four o ho, q]; rfl) hC
        · have e : meetO o k (-1) = (bits .and .u8 (k : Int) 1 != 0) := by
            rw [bit_one k hk, Bool.eq_iff_iff]; simp [meetO, h0, h4, q]; omega
          rw [e]
          exact meet_less0 nm o n v r nb k m u x w ho hk h h2 (by rw [bit_four o ho, show o / 4 % 2 = 0 by omega]; rfl) hC
      · rw [h3] at hC ⊢
        have e : meetO o k 0 = (bits .and .u8 (bits .and .u8 (o : Int) (k : Int)) 7 != 0) := by
          have hb := both_bits o k
          rw [both_seven o k ho hk, Bool.eq_iff_iff]
          simp only [meetO, h0, h4, Bool.false_or, Int.lt_irrefl, if_false, bne_iff_ne, ne_eq, Bool.or_eq_true, Bool.and_eq_true, beq_iff_eq]
          rw [show ((((o % 8) &&& (k % 8) : Nat) : Int) = 0) = (((o % 8) &&& (k % 8)) = 0) from propext Int.ofNat_eq_zero]
          rw [← ne_eq, hb, or_assoc]
        rw [e]
        exact meet_same nm o n v r nb k m u x w ho hk h h2 hC
      · rw [h3] at hC ⊢
        by_cases q : o % 2 = 1
        · have e : meetO o k 1 = true := by simp [meetO, q]
          rw [e]
          exact meet_more1 nm o n v r nb k m u x w ho hk h h2 (by rw [bit_one o ho, q]; rfl) hC
        · have e : meetO o k 1 = (bits .and .u8 (k : Int) 4 != 0) := by
            rw [bit_four k hk, Bool.eq_iff_iff]; simp [meetO, h0, h4, q]; omega
          rw [e]
          exact meet_more0 nm o n v r nb k m u x w ho hk h h2 (by rw [bit_one o ho, show o % 2 = 0 by omega]; rfl) hC
end
end Go.Proofs.YtjjjelgjjdgldaaDoor
