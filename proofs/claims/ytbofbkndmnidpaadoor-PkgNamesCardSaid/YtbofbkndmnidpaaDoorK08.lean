/-
  The walks over the program's own text of layer 4: two ranges that meet. The walks over the document's answer for layer 3. The walks over the document's answer for layer 3. Plain facts on EVRs and their texts as the program reads them: the digits, a cut, a number, what stands where. Nothing of the program is named here. strings.IndexByte among the signs of a version, and strings.Cut around one byte, whatever the library's variables hold. Contracts of the library that the program's dep asks, out of the shelf: ValidRune, HasPrefix, IndexRune. Nothing of the program is named here. Conditions: as each theorem states.
-/
import Derived.Test.YtbofbkndmnidpaaDoorK07
import Derived.Test.YtbofbkndmnidpaaDoorK01
import Derived.Test.YtbofbkndmnidpaaDoorK04
import Derived.Test.YtbofbkndmnidpaaDoorRows
import Derived.Deep.CutRange
import Derived.Deep.CutBlock
import Derived.Handy
import Derived.Lib.Hide
import Derived.Deep.QuietTactic
import Derived.BigQuiet
import Derived.Lib.ItoaNum
import Derived.Lib.IndexMore
import Derived.Lib.Bytealg
import Derived.Lib.AtoiAll
import Derived.Lib.AtoiAllCases
import Derived.Shelf.Small.Strs
import Derived.Shelf.Strings.Search2
import Derived.WalkKit
import Derived.Shelf.Strings.Search3
import Derived.Shelf.Strings.Prefix
import Derived.Shelf.Strings.Runes
import Derived.Shelf.Small.Utf8
import Derived.Lib.IndexBytes
namespace Go.Proofs.YtbofbkndmnidpaaDoor
open Go.RowKit Go.Maps Span Evr

section
variable (nm : ByteArray) (o : Nat) (n : Int) (v r : ByteArray) (nb : ByteArray) (k : Nat) (m : Int) (u x : ByteArray) (w : World) (ho : o < 256) (hk : k < 256)
include ho hk
omit hk in
set_option maxRecDepth 100000 in
set_option maxHeartbeats 1000000 in
theorem meet_any1 (h : o % 8 = 0) : Calls Tryd.prog 57 #[depV nm o n v r, depV nb k m u x] w fun e w' => e = .returned (.bool (true)) ∧ Kept (fun _ => False) w w' := by
  have A1 := any_yes nm o n v r ho h
  have A2 := A1
  have hk0 : Kept (fun _ => False) w ((w.alloc (.cells #[.string nm, .int .u8 (o : Int), .int .i64 n, .string v, .string r] 25)).alloc (.cells #[.string nb, .int .u8 (k : Int), .int .i64 m, .string u, .string x] 25)) := ((Kept.refl _ _).alloc _).alloc _
  have HK := Lib.hid hk0
  have bA := (Box.made w 25 #[.string nm, .int .u8 (o : Int), .int .i64 n, .string v, .string r]).after_alloc (.cells #[.string nb, .int .u8 (k : Int), .int .i64 m, .string u, .string x] 25)
  have bB := Box.made (w.alloc (.cells #[.string nm, .int .u8 (o : Int), .int .i64 n, .string v, .string r] 25)) 25 #[.string nb, .int .u8 (k : Int), .int .i64 m, .string u, .string x]
  rw [World.size_alloc] at bB
  have HA := Lib.hid bA
  have HB := Lib.hid bB
  clear hk0 bA bB
  go_enter Tryd.func57, Tryd.ntmps57
  go_wp2_with (first
    | (go_at_call 68; (first | with_reducible refine (A1 _).mono ?_ | with_reducible refine (A2 _).mono ?_); rintro e w5 ⟨rfl, hk5⟩; have HA := Lib.hid (hk5.box HA.out (fun h => h)); have HB := Lib.hid (hk5.box HB.out (fun h => h)); have a0 := HA.out.cell 0; have b0 := HB.out.cell 0; have a1 := HA.out.cell 1; have b1 := HB.out.cell 1; have a2 := HA.out.cell 2; have b2 := HB.out.cell 2; have a3 := HA.out.cell 3; have b3 := HB.out.cell 3; have a4 := HA.out.cell 4; have b4 := HB.out.cell 4; have HK := Lib.hid (Kept.trans HK.out hk5 (fun _ _ h => h)); clear hk5)
    | fail)
  go_ret
  exact ⟨rfl, HK.out⟩
set_option maxRecDepth 100000 in
set_option maxHeartbeats 1000000 in
theorem meet_any2 (h : o % 8 ≠ 0) (h2 : k % 8 = 0) : Calls Tryd.prog 57 #[depV nm o n v r, depV nb k m u x] w fun e w' => e = .returned (.bool (true)) ∧ Kept (fun _ => False) w w' := by
  have A1 := any_no nm o n v r ho h
  have A2 := any_yes nb k m u x hk h2
  have hk0 : Kept (fun _ => False) w ((w.alloc (.cells #[.string nm, .int .u8 (o : Int), .int .i64 n, .string v, .string r] 25)).alloc (.cells #[.string nb, .int .u8 (k : Int), .int .i64 m, .string u, .string x] 25)) := ((Kept.refl _ _).alloc _).alloc _
  have HK := Lib.hid hk0
  have bA := (Box.made w 25 #[.string nm, .int .u8 (o : Int), .int .i64 n, .string v, .string r]).after_alloc (.cells #[.string nb, .int .u8 (k : Int), .int .i64 m, .string u, .string x] 25)
  have bB := Box.made (w.alloc (.cells #[.string nm, .int .u8 (o : Int), .int .i64 n, .string v, .string r] 25)) 25 #[.string nb, .int .u8 (k : Int), .int .i64 m, .string u, .string x]
  rw [World.size_alloc] at bB
  have HA := Lib.hid bA
  have HB := Lib.hid bB
  clear hk0 bA bB
  go_enter Tryd.func57, Tryd.ntmps57
  go_wp2_with (first
    | (go_at_call 68; (first | with_reducible refine (A1 _).mono ?_ | with_reducible refine (A2 _).mono ?_); rintro e w5 ⟨rfl, hk5⟩; have HA := Lib.hid (hk5.box HA.out (fun h => h)); have HB := Lib.hid (hk5.box HB.out (fun h => h)); have a0 := HA.out.cell 0; have b0 := HB.out.cell 0; have a1 := HA.out.cell 1; have b1 := HB.out.cell 1; have a2 := HA.out.cell 2; have b2 := HB.out.cell 2; have a3 := HA.out.cell 3; have b3 := HB.out.cell 3; have a4 := HA.out.cell 4; have b4 := HB.out.cell 4; have HK := Lib.hid (Kept.trans HK.out hk5 (fun _ _ h => h)); clear hk5)
    | fail)
  go_ret
  exact ⟨rfl, HK.out⟩
set_option maxRecDepth 100000 in
set_option maxHeartbeats 1000000 in
theorem meet_less1 (h : o % 8 ≠ 0) (h2 : k % 8 ≠ 0) (q : bits .and .u8 (o : Int) 4 = 4) (C1 : ∀ W, Calls Tryd.prog 69 #[.agg #[.int .i64 n, .string v, .string r], .agg #[.int .i64 m, .string u, .string x]] W fun e w' => e = .returned (.int .i64 (-1)) ∧ Kept (fun _ => False) W w') : Calls Tryd.prog 57 #[depV nm o n v r, depV nb k m u x] w fun e w' => e = .returned (.bool (true)) ∧ Kept (fun _ => False) w w' := by
  have A1 := any_no nm o n v r ho h
  have A2 := any_no nb k m u x hk h2
  have hk0 : Kept (fun _ => False) w ((w.alloc (.cells #[.string nm, .int .u8 (o : Int), .int .i64 n, .string v, .string r] 25)).alloc (.cells #[.string nb, .int .u8 (k : Int), .int .i64 m, .string u, .string x] 25)) := ((Kept.refl _ _).alloc _).alloc _
  have HK := Lib.hid hk0
  have bA := (Box.made w 25 #[.string nm, .int .u8 (o : Int), .int .i64 n, .string v, .string r]).after_alloc (.cells #[.string nb, .int .u8 (k : Int), .int .i64 m, .string u, .string x] 25)
  have bB := Box.made (w.alloc (.cells #[.string nm, .int .u8 (o : Int), .int .i64 n, .string v, .string r] 25)) 25 #[.string nb, .int .u8 (k : Int), .int .i64 m, .string u, .string x]
  rw [World.size_alloc] at bB
  have HA := Lib.hid bA
  have HB := Lib.hid bB
  clear hk0 bA bB
  go_enter Tryd.func57, Tryd.ntmps57
  go_wp2_with (first
    | (go_at_call 68; (first | with_reducible refine (A1 _).mono ?_ | with_reducible refine (A2 _).mono ?_); rintro e w5 ⟨rfl, hk5⟩; have HA := Lib.hid (hk5.box HA.out (fun h => h)); have HB := Lib.hid (hk5.box HB.out (fun h => h)); have a0 := HA.out.cell 0; have b0 := HB.out.cell 0; have a1 := HA.out.cell 1; have b1 := HB.out.cell 1; have a2 := HA.out.cell 2; have b2 := HB.out.cell 2; have a3 := HA.out.cell 3; have b3 := HB.out.cell 3; have a4 := HA.out.cell 4; have b4 := HB.out.cell 4; have HK := Lib.hid (Kept.trans HK.out hk5 (fun _ _ h => h)); clear hk5)
    | (go_at_call 69; with_reducible refine (C1 _).mono ?_; rintro e w5 ⟨rfl, hk5⟩; have HA := Lib.hid (hk5.box HA.out (fun h => h)); have HB := Lib.hid (hk5.box HB.out (fun h => h)); have a0 := HA.out.cell 0; have b0 := HB.out.cell 0; have a1 := HA.out.cell 1; have b1 := HB.out.cell 1; have a2 := HA.out.cell 2; have b2 := HB.out.cell 2; have a3 := HA.out.cell 3; have b3 := HB.out.cell 3; have a4 := HA.out.cell 4; have b4 := HB.out.cell 4; have HK := Lib.hid (Kept.trans HK.out hk5 (fun _ _ h => h)); clear hk5)
    | fail)
  go_ret
  exact ⟨rfl, HK.out⟩
set_option maxRecDepth 100000 in
set_option maxHeartbeats 1000000 in
theorem meet_less0 (h : o % 8 ≠ 0) (h2 : k % 8 ≠ 0) (q : bits .and .u8 (o : Int) 4 = 0) (C1 : ∀ W, Calls Tryd.prog 69 #[.agg #[.int .i64 n, .string v, .string r], .agg #[.int .i64 m, .string u, .string x]] W fun e w' => e = .returned (.int .i64 (-1)) ∧ Kept (fun _ => False) W w') : Calls Tryd.prog 57 #[depV nm o n v r, depV nb k m u x] w fun e w' => e = .returned (.bool (bits .and .u8 (k : Int) 1 != 0)) ∧ Kept (fun _ => False) w w' := by
  have A1 := any_no nm o n v r ho h
  have A2 := any_no nb k m u x hk h2
  have hk0 : Kept (fun _ => False) w ((w.alloc (.cells #[.string nm, .int .u8 (o : Int), .int .i64 n, .string v, .string r] 25)).alloc (.cells #[.string nb, .int .u8 (k : Int), .int .i64 m, .string u, .string x] 25)) := ((Kept.refl _ _).alloc _).alloc _
  have HK := Lib.hid hk0
  have bA := (Box.made w 25 #[.string nm, .int .u8 (o : Int), .int .i64 n, .string v, .string r]).after_alloc (.cells #[.string nb, .int .u8 (k : Int), .int .i64 m, .string u, .string x] 25)
  have bB := Box.made (w.alloc (.cells #[.string nm, .int .u8 (o : Int), .int .i64 n, .string v, .string r] 25)) 25 #[.string nb, .int .u8 (k : Int), .int .i64 m, .string u, .string x]
  rw [World.size_alloc] at bB
  have HA := Lib.hid bA
  have HB := Lib.hid bB
  clear hk0 bA bB
  go_enter Tryd.func57, Tryd.ntmps57
  go_wp2_with (first
    | (go_at_call 68; (first | with_reducible refine (A1 _).mono ?_ | with_reducible refine (A2 _).mono ?_); rintro e w5 ⟨rfl, hk5⟩; have HA := Lib.hid (hk5.box HA.out (fun h => h)); have HB := Lib.hid (hk5.box HB.out (fun h => h)); have a0 := HA.out.cell 0; have b0 := HB.out.cell 0; have a1 := HA.out.cell 1; have b1 := HB.out.cell 1; have a2 := HA.out.cell 2; have b2 := HB.out.cell 2; have a3 := HA.out.cell 3; have b3 := HB.out.cell 3; have a4 := HA.out.cell 4; have b4 := HB.out.cell 4; have HK := Lib.hid (Kept.trans HK.out hk5 (fun _ _ h => h)); clear hk5)
    | (go_at_call 69; with_reducible refine (C1 _).mono ?_; rintro e w5 ⟨rfl, hk5⟩; have HA := Lib.hid (hk5.box HA.out (fun h => h)); have HB := Lib.hid (hk5.box HB.out (fun h => h)); have a0 := HA.out.cell 0; have b0 := HB.out.cell 0; have a1 := HA.out.cell 1; have b1 := HB.out.cell 1; have a2 := HA.out.cell 2; have b2 := HB.out.cell 2; have a3 := HA.out.cell 3; have b3 := HB.out.cell 3; have a4 := HA.out.cell 4; have b4 := HB.out.cell 4; have HK := Lib.hid (Kept.trans HK.out hk5 (fun _ _ h => h)); clear hk5)
    | fail)
  go_ret
  exact ⟨rfl, HK.out⟩
set_option maxRecDepth 100000 in
set_option maxHeartbeats 1000000 in
theorem meet_more1 (h : o % 8 ≠ 0) (h2 : k % 8 ≠ 0) (q : bits .and .u8 (o : Int) 1 = 1) (C1 : ∀ W, Calls Tryd.prog 69 #[.agg #[.int .i64 n, .string v, .string r], .agg #[.int .i64 m, .string u, .string x]] W fun e w' => e = .returned (.int .i64 (1)) ∧ Kept (fun _ => False) W w') : Calls Tryd.prog 57 #[depV nm o n v r, depV nb k m u x] w fun e w' => e = .returned (.bool (true)) ∧ Kept (fun _ => False) w w' := by
  have A1 := any_no nm o n v r ho h
  have A2 := any_no nb k m u x hk h2
  have hk0 : Kept (fun _ => False) w ((w.alloc (.cells #[.string nm, .int .u8 (o : Int), .int .i64 n, .string v, .string r] 25)).alloc (.cells #[.string nb, .int .u8 (k : Int), .int .i64 m, .string u, .string x] 25)) := ((Kept.refl _ _).alloc _).alloc _
  have HK := Lib.hid hk0
  have bA := (Box.made w 25 #[.string nm, .int .u8 (o : Int), .int .i64 n, .string v, .string r]).after_alloc (.cells #[.string nb, .int .u8 (k : Int), .int .i64 m, .string u, .string x] 25)
  have bB := Box.made (w.alloc (.cells #[.string nm, .int .u8 (o : Int), .int .i64 n, .string v, .string r] 25)) 25 #[.string nb, .int .u8 (k : Int), .int .i64 m, .string u, .string x]
  rw [World.size_alloc] at bB
  have HA := Lib.hid bA
  have HB := Lib.hid bB
  clear hk0 bA bB
  go_enter Tryd.func57, Tryd.ntmps57
  go_wp2_with (first
    | (go_at_call 68; (first | with_reducible refine (A1 _).mono ?_ | with_reducible refine (A2 _).mono ?_); rintro e w5 ⟨rfl, hk5⟩; have HA := Lib.hid (hk5.box HA.out (fun h => h)); have HB := Lib.hid (hk5.box HB.out (fun h => h)); have a0 := HA.out.cell 0; have b0 := HB.out.cell 0; have a1 := HA.out.cell 1; have b1 := HB.out.cell 1; have a2 := HA.out.cell 2; have b2 := HB.out.cell 2; have a3 := HA.out.cell 3; have b3 := HB.out.cell 3; have a4 := HA.out.cell 4; have b4 := HB.out.cell 4; have HK := Lib.hid (Kept.trans HK.out hk5 (fun _ _ h => h)); clear hk5)
    | (go_at_call 69; with_reducible refine (C1 _).mono ?_; rintro e w5 ⟨rfl, hk5⟩; have HA := Lib.hid (hk5.box HA.out (fun h => h)); have HB := Lib.hid (hk5.box HB.out (fun h => h)); have a0 := HA.out.cell 0; have b0 := HB.out.cell 0; have a1 := HA.out.cell 1; have b1 := HB.out.cell 1; have a2 := HA.out.cell 2; have b2 := HB.out.cell 2; have a3 := HA.out.cell 3; have b3 := HB.out.cell 3; have a4 := HA.out.cell 4; have b4 := HB.out.cell 4; have HK := Lib.hid (Kept.trans HK.out hk5 (fun _ _ h => h)); clear hk5)
    | fail)
  go_ret
  exact ⟨rfl, HK.out⟩
set_option maxRecDepth 100000 in
set_option maxHeartbeats 1000000 in
theorem meet_more0 (h : o % 8 ≠ 0) (h2 : k % 8 ≠ 0) (q : bits .and .u8 (o : Int) 1 = 0) (C1 : ∀ W, Calls Tryd.prog 69 #[.agg #[.int .i64 n, .string v, .string r], .agg #[.int .i64 m, .string u, .string x]] W fun e w' => e = .returned (.int .i64 (1)) ∧ Kept (fun _ => False) W w') : Calls Tryd.prog 57 #[depV nm o n v r, depV nb k m u x] w fun e w' => e = .returned (.bool (bits .and .u8 (k : Int) 4 != 0)) ∧ Kept (fun _ => False) w w' := by
  have A1 := any_no nm o n v r ho h
  have A2 := any_no nb k m u x hk h2
  have hk0 : Kept (fun _ => False) w ((w.alloc (.cells #[.string nm, .int .u8 (o : Int), .int .i64 n, .string v, .string r] 25)).alloc (.cells #[.string nb, .int .u8 (k : Int), .int .i64 m, .string u, .string x] 25)) := ((Kept.refl _ _).alloc _).alloc _
  have HK := Lib.hid hk0
  have bA := (Box.made w 25 #[.string nm, .int .u8 (o : Int), .int .i64 n, .string v, .string r]).after_alloc (.cells #[.string nb, .int .u8 (k : Int), .int .i64 m, .string u, .string x] 25)
  have bB := Box.made (w.alloc (.cells #[.string nm, .int .u8 (o : Int), .int .i64 n, .string v, .string r] 25)) 25 #[.string nb, .int .u8 (k : Int), .int .i64 m, .string u, .string x]
  rw [World.size_alloc] at bB
  have HA := Lib.hid bA
  have HB := Lib.hid bB
  clear hk0 bA bB
  go_enter Tryd.func57, Tryd.ntmps57
  go_wp2_with (first
    | (go_at_call 68; (first | with_reducible refine (A1 _).mono ?_ | with_reducible refine (A2 _).mono ?_); rintro e w5 ⟨rfl, hk5⟩; have HA := Lib.hid (hk5.box HA.out (fun h => h)); have HB := Lib.hid (hk5.box HB.out (fun h => h)); have a0 := HA.out.cell 0; have b0 := HB.out.cell 0; have a1 := HA.out.cell 1; have b1 := HB.out.cell 1; have a2 := HA.out.cell 2; have b2 := HB.out.cell 2; have a3 := HA.out.cell 3; have b3 := HB.out.cell 3; have a4 := HA.out.cell 4; have b4 := HB.out.cell 4; have HK := Lib.hid (Kept.trans HK.out hk5 (fun _ _ h => h)); clear hk5)
    | (go_at_call 69; with_reducible refine (C1 _).mono ?_; rintro e w5 ⟨rfl, hk5⟩; have HA := Lib.hid (hk5.box HA.out (fun h => h)); have HB := Lib.hid (hk5.box HB.out (fun h => h)); have a0 := HA.out.cell 0; have b0 := HB.out.cell 0; have a1 := HA.out.cell 1; have b1 := HB.out.cell 1; have a2 := HA.out.cell 2; have b2 := HB.out.cell 2; have a3 := HA.out.cell 3; have b3 := HB.out.cell 3; have a4 := HA.out.cell 4; have b4 := HB.out.cell 4; have HK := Lib.hid (Kept.trans HK.out hk5 (fun _ _ h => h)); clear hk5)
    | fail)
  go_ret
  exact ⟨rfl, HK.out⟩
set_option maxRecDepth 100000 in
set_option maxHeartbeats 1000000 in
theorem meet_same (h : o % 8 ≠ 0) (h2 : k % 8 ≠ 0) (C1 : ∀ W, Calls Tryd.prog 69 #[.agg #[.int .i64 n, .string v, .string r], .agg #[.int .i64 m, .string u, .string x]] W fun e w' => e = .returned (.int .i64 (0)) ∧ Kept (fun _ => False) W w') : Calls Tryd.prog 57 #[depV nm o n v r, depV nb k m u x] w fun e w' => e = .returned (.bool (bits .and .u8 (bits .and .u8 (o : Int) (k : Int)) 7 != 0)) ∧ Kept (fun _ => False) w w' := by
  have A1 := any_no nm o n v r ho h
  have A2 := any_no nb k m u x hk h2
  have hk0 : Kept (fun _ => False) w ((w.alloc (.cells #[.string nm, .int .u8 (o : Int), .int .i64 n, .string v, .string r] 25)).alloc (.cells #[.string nb, .int .u8 (k : Int), .int .i64 m, .string u, .string x] 25)) := ((Kept.refl _ _).alloc _).alloc _
  have HK := Lib.hid hk0
  have bA := (Box.made w 25 #[.string nm, .int .u8 (o : Int), .int .i64 n, .string v, .string r]).after_alloc (.cells #[.string nb, .int .u8 (k : Int), .int .i64 m, .string u, .string x] 25)
  have bB := Box.made (w.alloc (.cells #[.string nm, .int .u8 (o : Int), .int .i64 n, .string v, .string r] 25)) 25 #[.string nb, .int .u8 (k : Int), .int .i64 m, .string u, .string x]
  rw [World.size_alloc] at bB
  have HA := Lib.hid bA
  have HB := Lib.hid bB
  clear hk0 bA bB
  go_enter Tryd.func57, Tryd.ntmps57
  go_wp2_with (first
    | (go_at_call 68; (first | with_reducible refine (A1 _).mono ?_ | with_reducible refine (A2 _).mono ?_); rintro e w5 ⟨rfl, hk5⟩; have HA := Lib.hid (hk5.box HA.out (fun h => h)); have HB := Lib.hid (hk5.box HB.out (fun h => h)); have a0 := HA.out.cell 0; have b0 := HB.out.cell 0; have a1 := HA.out.cell 1; have b1 := HB.out.cell 1; have a2 := HA.out.cell 2; have b2 := HB.out.cell 2; have a3 := HA.out.cell 3; have b3 := HB.out.cell 3; have a4 := HA.out.cell 4; have b4 := HB.out.cell 4; have HK := Lib.hid (Kept.trans HK.out hk5 (fun _ _ h => h)); clear hk5)
    | (go_at_call 69; with_reducible refine (C1 _).mono ?_; rintro e w5 ⟨rfl, hk5⟩; have HA := Lib.hid (hk5.box HA.out (fun h => h)); have HB := Lib.hid (hk5.box HB.out (fun h => h)); have a0 := HA.out.cell 0; have b0 := HB.out.cell 0; have a1 := HA.out.cell 1; have b1 := HB.out.cell 1; have a2 := HA.out.cell 2; have b2 := HB.out.cell 2; have a3 := HA.out.cell 3; have b3 := HB.out.cell 3; have a4 := HA.out.cell 4; have b4 := HB.out.cell 4; have HK := Lib.hid (Kept.trans HK.out hk5 (fun _ _ h => h)); clear hk5)
    | fail)
  go_ret
  exact ⟨rfl, HK.out⟩
theorem meet_k (hv : v.size ≤ 1000000) (hr : r.size ≤ 1000000) (hu : u.size ≤ 1000000) (hx : x.size ≤ 1000000) : Calls Tryd.prog 57 #[depV nm o n v r, depV nb k m u x] w fun e w' => e = .returned (.bool (meetO o k (cmpE (evrE n v r) (evrE m u x)))) ∧ Kept (fun _ => False) w w' := by
  have hC := fun W => compareK_walk n m v r u x W hv hr hu hx
  have h3 := three (e_range (evrE n v r) (evrE m u x))
  by_cases h : o % 8 = 0
  · have e : ∀ c, meetO o k c = true := fun c => by unfold meetO; simp [h]
    rw [e]
    exact meet_any1 nm o n v r nb k m u x w ho h
  · have h0 : (o % 8 == 0) = false := by simp [h]
    by_cases h2 : k % 8 = 0
    · have e : ∀ c, meetO o k c = true := fun c => by unfold meetO; simp [h2]
      rw [e]
      exact meet_any2 nm o n v r nb k m u x w ho hk h h2
    · have h4 : (k % 8 == 0) = false := by simp [h2]
      rcases h3 with h3 | h3 | h3
      · rw [h3] at hC ⊢
        by_cases q : o / 4 % 2 = 1
        · have e : meetO o k (-1) = true := by simp [meetO, q]
          rw [e]
          exact meet_less1 nm o n v r nb k m u x w ho hk h h2 (by rw [bit_four o ho, q]; rfl) hC
        · have e : meetO o k (-1) = (bits .and .u8 (k : Int) 1 != 0) := by
            rw [bit_one k hk, Bool.eq_iff_iff]; simp [meetO, h0, h4, q]; omega
          rw [e]
          exact meet_less0 nm o n v r nb k m u x w ho hk h h2 (by rw [bit_four o ho, show o / 4 % 2 = 0 by omega]; rfl) hC
      · rw [h3] at hC ⊢
        have e : meetO o k 0 = (bits .and .u8 (bits .and .u8 (o : Int) (k : Int)) 7 != 0) := by
          have hb := both_bits o k
          rw [both_seven o k ho hk, Bool.eq_iff_iff]
          simp only [meetO, h0, h4, Bool.false_or, Int.lt_irrefl, if_false, bne_iff_ne, ne_eq, Bool.or_eq_true, Bool.and_eq_true, beq_iff_eq]
          rw [show ((((o % 8) &&& (k % 8) : Nat) : Int) = 0) = (((o % 8) &&& (k % 8)) = 0) from propext Int.ofNat_eq_zero]
          rw [← ne_eq, hb, or_assoc]
        rw [e]
        exact meet_same nm o n v r nb k m u x w ho hk h h2 hC
      · rw [h3] at hC ⊢
        by_cases q : o % 2 = 1
        · have e : meetO o k 1 = true := by simp [meetO, q]
          rw [e]
          exact meet_more1 nm o n v r nb k m u x w ho hk h h2 (by rw [bit_one o ho, q]; rfl) hC
        · have e : meetO o k 1 = (bits .and .u8 (k : Int) 4 != 0) := by
            rw [bit_four k hk, Bool.eq_iff_iff]; simp [meetO, h0, h4, q]; omega
          rw [e]
          exact meet_more0 nm o n v r nb k m u x w ho hk h h2 (by rw [bit_one o ho, show o % 2 = 0 by omega]; rfl) hC
end
end Go.Proofs.YtbofbkndmnidpaaDoor

namespace Go.Proofs.YtbofbkndmnidpaaDoor
open Go.RowKit Ver Evr

theorem take_ok {s : List UInt8} {i : Nat} {c : UInt8} (h : (s.take i).all okB = true) (hc : s[i]? = some c) (hok : okB c = true) : (s.take (i + 1)).all okB = true := by
  rw [List.take_add_one, hc, List.all_append, h]
  simp [hok]
theorem word_not {s : List UInt8} {i : Nat} {c : UInt8} (hc : s[i]? = some c) (hok : okB c = false) : wordE s = false := by
  unfold wordE
  have : s.all okB = false := by
    rw [List.all_eq_false]
    exact ⟨c, List.mem_of_getElem? hc, by simp [hok]⟩
  rw [this]
  rfl

end Go.Proofs.YtbofbkndmnidpaaDoor

namespace Go.Proofs.YtbofbkndmnidpaaDoor
open Go.RowKit Ver Evr

/-- An EVR. -/
theorem may_low {n : Int} {v r : ByteArray} {dep : Bool} (h : n < 0 ∨ 2147483647 < n) : mayE (evrE n v r) dep = false := by
  unfold mayE evrE
  rcases h with h | h
  · simp [show ¬ 0 ≤ n by omega]
  · simp [show ¬ n ≤ 2147483647 by omega]
theorem may_ver {n : Int} {v r : ByteArray} {dep : Bool} (h : wordE v.data.toList = false) : mayE (evrE n v r) dep = false := by unfold mayE evrE; simp [h]
theorem may_dep {n : Int} {v : ByteArray} {dep : Bool} (h0 : 0 ≤ n) (h1 : n ≤ 2147483647) (h : wordE v.data.toList = true) : mayE (evrE n v ⟨#[]⟩) dep = dep := by unfold mayE evrE; simp [h, h0, h1]
theorem may_rel {n : Int} {v r : ByteArray} {dep : Bool} (h0 : 0 ≤ n) (h1 : n ≤ 2147483647) (h : wordE v.data.toList = true) (hr : r ≠ ⟨#[]⟩) : mayE (evrE n v r) dep = wordE r.data.toList := by
  unfold mayE evrE
  simp only [h, h0, h1, decide_true, Bool.true_and, if_neg (fun e => hr (empty_text.1 e))]

/-- What cut answers. -/
def CutR (s : ByteArray) (c : UInt8) (e : Ending) : Prop := ∃ x y z, e = .returned (.tuple #[.string x, .string y, .bool z]) ∧ cut c s.data.toList = (x.data.toList, y.data.toList, z) ∧ x.size ≤ s.size ∧ y.size ≤ s.size
theorem cut_step {c b : UInt8} {x y : List UInt8} (hx : ∀ z ∈ x, z ≠ c) (h : b = c) : cut c (x ++ b :: y) = (x, y, true) := by rw [h]; exact cut_at c x y hx
end Go.Proofs.YtbofbkndmnidpaaDoor

namespace Go.Proofs.YtbofbkndmnidpaaDoor
namespace Evr
open Ver

theorem dec_digits : ∀ n, Lib.decDigits n = digits n := by
  intro n
  induction n using Nat.strongRecOn with
  | _ n ih =>
    by_cases h : n < 10
    · rw [Lib.decDigits, dif_pos h, digits_small h]
      unfold dig
      rw [Nat.mod_eq_of_lt h]
    · rw [Lib.decDigits, dif_neg h, digits_big h, ih (n / 10) (by omega)]
      rfl
theorem itoa_digits {n : Int} (h : 0 < n) : Lib.itoa n = digits n.toNat := by
  unfold Lib.itoa
  rw [if_neg (by omega), dec_digits]
theorem index_one (c : UInt8) : ∀ l : List UInt8, (Lib.index l [c] = -1 ∧ cut c l = (l, [], false)) ∨ ∃ i : Nat, Lib.index l [c] = i ∧ cut c l = (l.take i, l.drop (i + 1), true)
  | [] => .inl ⟨rfl, rfl⟩
  | b :: l => by
    rw [cut, Lib.index]
    by_cases h : b = c
    · subst h
      exact .inr ⟨0, by simp, by simp⟩
    · rw [if_neg h]
      have h1 : ([c].isPrefixOf (b :: l)) = false := by
        have h2 : (c == b) = false := by simp; exact fun e => h e.symm
        simp [List.isPrefixOf, h2]
      rw [h1]
      rcases index_one c l with ⟨h2, h3⟩ | ⟨i, h2, h3⟩
      · rw [h2, h3]; exact .inl ⟨rfl, rfl⟩
      · rw [h2, h3]
        refine .inr ⟨i + 1, ?_, by simp⟩
        have h4 : ((i : Int) == -1) = false := by rw [beq_eq_false_iff_ne]; omega
        simp [h4]
theorem lib_cut (c : UInt8) (l : List UInt8) : Lib.cut l [c] = cut c l := by
  unfold Lib.cut
  rcases index_one c l with ⟨h2, h3⟩ | ⟨i, h2, h3⟩
  · rw [h2, h3, if_neg (by omega)]
  · rw [h2, h3, if_pos (by omega)]
    simp
/-- The number that a text reads as: 0 where it is none, the greatest or the least where it is too large. -/
def numV (l : List UInt8) : Int := match Lib.atoiAll l with | .ok v => v | .range => Lib.atoiSat l | _ => 0
theorem uint_val : ∀ (l : List UInt8) (acc : Nat), l.all isDig = true → (∀ k, k ≤ l.length → acc * 10 ^ k < 1844674407370955162 ∨ k = l.length) → l.foldl (fun n b => n * 10 + (b.toNat - 48)) acc < 1844674407370955162 → Lib.parseUint10 acc l = .ok (l.foldl (fun n b => n * 10 + (b.toNat - 48)) acc)
  | [], acc, _, _, _ => rfl
  | b :: l, acc, hd, _, hv => by
    have hd' : isDig b = true ∧ l.all isDig = true := by simpa using hd
    have hb : 48 ≤ b.toNat ∧ b.toNat ≤ 57 := by have := hd'.1; unfold isDig at this; simpa using this
    have mono : ∀ (l : List UInt8) (a : Nat), a ≤ l.foldl (fun n b => n * 10 + (b.toNat - 48)) a := by
      intro l
      induction l with
      | nil => intro a; exact Nat.le_refl _
      | cons c l ih => intro a; exact Nat.le_trans (by omega) (ih (a * 10 + (c.toNat - 48)))
    have hm := mono l (acc * 10 + (b.toNat - 48))
    have hv' : l.foldl (fun n b => n * 10 + (b.toNat - 48)) (acc * 10 + (b.toNat - 48)) < 1844674407370955162 := hv
    rw [Lib.parseUint10, if_pos hb, if_neg (by omega), if_neg (by omega)]
    exact uint_val l _ hd'.2 (fun k hk => by
      by_cases h : k = l.length
      · exact .inr h
      · refine .inl ?_
        have pw : ∀ (l : List UInt8) (a k : Nat), k ≤ l.length → a * 10 ^ k ≤ l.foldl (fun n b => n * 10 + (b.toNat - 48)) a := by
          intro l
          induction l with
          | nil => intro a k hk; have : k = 0 := by simpa using hk
                   subst this; simp
          | cons c l ih =>
            intro a k hk
            cases k with
            | zero => simpa using mono (c :: l) a
            | succ k =>
              have h1 := ih (a * 10 + (c.toNat - 48)) k (by simpa using hk)
              refine Nat.le_trans ?_ h1
              rw [Nat.pow_succ, Nat.mul_comm (10 ^ k) 10, ← Nat.mul_assoc]
              exact Nat.mul_le_mul_right _ (by omega)
        exact Nat.lt_of_le_of_lt (pw l _ k hk) hv') hv'
theorem num_digits {n : Nat} (h : n ≤ 2147483647) : numV (digits n) = n := by
  unfold numV
  have hall := digits_all n
  have hne := digits_ne n
  have hv := digits_val n
  cases hd : digits n with
  | nil => exact absurd hd hne
  | cons b l =>
    rw [hd] at hall hv
    have hb : 48 ≤ b.toNat ∧ b.toNat ≤ 57 := by
      have : isDig b = true := by have h2 : isDig b = true ∧ l.all isDig = true := by simpa using hall
                                  exact h2.1
      unfold isDig at this; simpa using this
    have hu : Lib.parseMag (b :: l) = .ok n := by
      have h1 := uint_val (b :: l) 0 hall (fun k _ => .inl (by omega)) (by show val (b :: l) < _; omega)
      unfold Lib.parseMag
      rw [if_neg (by simp), h1]
      show Lib.NumEnd.ok (val (b :: l)) = _
      rw [hv]
    rw [Lib.atoiAll_plain b l (by omega) (by omega), hu]
    have hs : Lib.signless (Lib.NumEnd.ok n) = Lib.NumEnd.ok (n : Int) := by
      unfold Lib.signless
      simp only
      rw [if_neg (by omega)]
    rw [hs]
/-- What stands in a text for an epoch, a version, a release. -/
def splitE (s : List UInt8) : E :=
  if (cut 58 s).2.2 = true then ⟨numV (cut 58 s).1, (cut 45 (cut 58 s).2.1).1, (cut 45 (cut 58 s).2.1).2.1⟩ else ⟨0, (cut 45 s).1, (cut 45 s).2.1⟩
theorem tail_cut {e : E} (h : mayE e true = true) : (cut 45 (e.ver ++ (if e.rel = [] then [] else 45 :: e.rel))).1 = e.ver ∧ (cut 45 (e.ver ++ (if e.rel = [] then [] else 45 :: e.rel))).2.1 = e.rel := by
  obtain ⟨_, _, h3, _⟩ := may_parts h
  have hv : ∀ b ∈ e.ver, b ≠ 45 := fun b hb => (ok_not ((word_ok h3).1 b hb)).2
  by_cases hr : e.rel = []
  · rw [if_pos hr, List.append_nil, cut_no 45 e.ver hv, hr]
    exact ⟨rfl, rfl⟩
  · rw [if_neg hr, cut_at 45 e.ver e.rel hv]
    exact ⟨rfl, rfl⟩
theorem split_show {e : E} (h : mayE e true = true) : splitE (showE e) = e := by
  obtain ⟨h1, h2, h3, h4⟩ := may_parts h
  obtain ⟨t1, t2⟩ := tail_cut h
  unfold showE
  by_cases h0 : 0 < e.epoch
  · rw [if_pos h0]
    have e1 : digits e.epoch.toNat ++ [58] ++ e.ver ++ (if e.rel = [] then [] else 45 :: e.rel) = digits e.epoch.toNat ++ 58 :: (e.ver ++ (if e.rel = [] then [] else 45 :: e.rel)) := by simp
    have hd : ∀ b ∈ digits e.epoch.toNat, b ≠ 58 := fun b hb => dig_not (List.all_eq_true.1 (digits_all _) b hb)
    unfold splitE
    rw [e1, cut_at 58 _ _ hd, if_pos rfl]
    show E.mk (numV (digits e.epoch.toNat)) (cut 45 (e.ver ++ (if e.rel = [] then [] else 45 :: e.rel))).1 (cut 45 (e.ver ++ (if e.rel = [] then [] else 45 :: e.rel))).2.1 = e
    have he : ((e.epoch.toNat : Nat) : Int) = e.epoch := by omega
    rw [t1, t2, num_digits (by omega), he]
  · rw [if_neg h0, List.nil_append]
    have hn : ∀ b ∈ e.ver ++ (if e.rel = [] then [] else 45 :: e.rel), b ≠ 58 := by
      intro b hb
      rcases List.mem_append.1 hb with hb | hb
      · exact (ok_not ((word_ok h3).1 b hb)).1
      · by_cases hr : e.rel = []
        · rw [if_pos hr] at hb; cases hb
        · rw [if_neg hr] at hb
          rcases List.mem_cons.1 hb with rfl | hb
          · decide
          · rcases h4 with h4 | h4
            · exact absurd h4 hr
            · exact (ok_not ((word_ok h4).1 b hb)).1
    unfold splitE
    have he : (0 : Int) = e.epoch := by omega
    rw [cut_no 58 _ hn, if_neg (by simp), t1, t2, he]
theorem parse_split (s : List UInt8) : parseE s = if mayE (splitE s) true = true ∧ showE (splitE s) = s then some (splitE s) else none := by
  by_cases h : mayE (splitE s) true = true ∧ showE (splitE s) = s
  · rw [if_pos h]
    have h1 := parse_show h.1
    rw [h.2] at h1
    exact h1
  · rw [if_neg h]
    cases hp : parseE s with
    | none => rfl
    | some e =>
      obtain ⟨h1, h2⟩ := show_parse hp
      have h3 := split_show h1
      rw [h2] at h3
      exact absurd ⟨by rw [h3]; exact h1, by rw [h3]; exact h2⟩ h
/-- A byte that is no letter and no digit, among the signs. -/
theorem sign_index (b : UInt8) : decide (0 ≤ Lib.indexByte [46, 95, 43, 126, 94] b) = (decide (b.toNat = 46) || decide (b.toNat = 95) || decide (b.toNat = 43) || decide (b.toNat = 126) || decide (b.toNat = 94)) := by
  have key : ((List.range 256).all fun n => decide (0 ≤ Lib.indexByte [46, 95, 43, 126, 94] (UInt8.ofNat n)) == (decide (n = 46) || decide (n = 95) || decide (n = 43) || decide (n = 126) || decide (n = 94))) = true := by kernel_rfl
  have h := List.all_eq_true.1 key b.toNat (List.mem_range.2 (UInt8.toNat_lt b))
  have hb : UInt8.ofNat b.toNat = b := by simp
  rw [hb] at h
  simpa using h
end Evr
end Go.Proofs.YtbofbkndmnidpaaDoor

namespace Go.Proofs.YtbofbkndmnidpaaDoor
open Go.Shelf
def sh_lays137_ren : Go.Shelf.Ren := ⟨fun | 137 => 61 | 217 => 74 | 266 => 85 | n => n, fun | 9 => 9 | 5 => 5 | 3 => 3 | n => n, fun | n => n⟩
theorem sh_lays137 : Go.Proofs.Lays.n137 Tryd.prog sh_lays137_ren := {
  mixed := by kernel_rfl
  f137 := Tryd.func61.trans (congrArg some (by kernel_rfl))
  f217 := Tryd.func74.trans (congrArg some (by kernel_rfl))
  f266 := Tryd.func85.trans (congrArg some (by kernel_rfl))
  t3 := Tryd.underlying3
  a3 := Tryd.isAgg3
  z3 := Tryd.sizeOf3
  v3 := Tryd.zeroValue3
  t5 := Tryd.underlying5
  a5 := Tryd.isAgg5
  z5 := Tryd.sizeOf5
  v5 := Tryd.zeroValue5
  t9 := Tryd.underlying9
  a9 := Tryd.isAgg9
  z9 := Tryd.sizeOf9
  v9 := Tryd.zeroValue9 }
open Go.RowKit in
theorem sh_strings_IndexByte (s : ByteArray) (c : Int) (w : World) :
    Calls Tryd.prog 61 #[.string s, .int .u8 c] w fun e w' => e = .returned (.int .i64 (Lib.indexByte s.data.toList c.toNat.toUInt8)) ∧ w' = w := Any.strings_IndexByte sh_lays137 s c w
open Go.RowKit Ver Evr
theorem index_sign (b : UInt8) (w : World) :
    Calls Tryd.prog 61 #[.string ⟨#[46, 95, 43, 126, 94]⟩, .int .u8 (b.toNat : Int)] w fun e w' => e = .returned (.int .i64 (Lib.indexByte [46, 95, 43, 126, 94] b)) ∧ w' = w :=
  (sh_strings_IndexByte ⟨#[46, 95, 43, 126, 94]⟩ (b.toNat : Int) w).mono fun e w' ⟨h1, h2⟩ => ⟨by rw [h1]; simp, h2⟩
theorem byte_index (c : UInt8) : ∀ l : List UInt8, (Lib.indexByte l c = -1 ∧ cut c l = (l, [], false)) ∨ ∃ i : Nat, Lib.indexByte l c = i ∧ i < l.length ∧ cut c l = (l.take i, l.drop (i + 1), true)
  | [] => .inl ⟨rfl, rfl⟩
  | b :: l => by
    rw [cut, Lib.indexByte]
    by_cases h : b = c
    · subst h
      exact .inr ⟨0, by simp, by simp, by simp⟩
    · rw [if_neg h]
      have h1 : (b == c) = false := by simp; exact h
      rw [h1]
      rcases byte_index c l with ⟨h2, h3⟩ | ⟨i, h2, hi, h3⟩
      · rw [h2, h3]; exact .inl ⟨rfl, rfl⟩
      · rw [h2, h3]
        refine .inr ⟨i + 1, ?_, by simp; omega, by simp⟩
        have h4 : ((i : Int) == -1) = false := by rw [beq_eq_false_iff_ne]; omega
        simp [h4]
end Go.Proofs.YtbofbkndmnidpaaDoor

namespace Go.Proofs.YtbofbkndmnidpaaDoor
open Go.Shelf
def sh_lays119_ren : Go.Shelf.Ren := ⟨fun | 119 => 71 | n => n, fun | 21 => 21 | 4 => 4 | n => n, fun | n => n⟩
theorem sh_lays119 : Go.Proofs.Lays.n119 Tryd.prog sh_lays119_ren := {
  mixed := by kernel_rfl
  f119 := Tryd.func71.trans (congrArg some (by kernel_rfl))
  t4 := Tryd.underlying4
  a4 := Tryd.isAgg4
  z4 := Tryd.sizeOf4
  v4 := Tryd.zeroValue4
  t21 := Tryd.underlying21
  a21 := Tryd.isAgg21
  z21 := Tryd.sizeOf21
  v21 := Tryd.zeroValue21 }
theorem sh_utf8_ValidRune (r : Int) (w : World) :
    Calls Tryd.prog 71 #[.int .i32 r] w fun e w' => e = .returned (.bool (Lib.validRune r)) ∧ w' = w := Any.utf8_ValidRune sh_lays119 r w
def sh_lays99_ren : Go.Shelf.Ren := ⟨fun | 99 => 28 | 206 => 46 | n => n, fun | 9 => 9 | 4 => 4 | 3 => 3 | n => n, fun | n => n⟩
theorem sh_lays99 : Go.Proofs.Lays.n99 Tryd.prog sh_lays99_ren := {
  mixed := by kernel_rfl
  f99 := Tryd.func28.trans (congrArg some (by kernel_rfl))
  f206 := Tryd.func46.trans (congrArg some (by kernel_rfl))
  t3 := Tryd.underlying3
  a3 := Tryd.isAgg3
  z3 := Tryd.sizeOf3
  v3 := Tryd.zeroValue3
  t4 := Tryd.underlying4
  a4 := Tryd.isAgg4
  z4 := Tryd.sizeOf4
  v4 := Tryd.zeroValue4
  t9 := Tryd.underlying9
  a9 := Tryd.isAgg9
  z9 := Tryd.sizeOf9
  v9 := Tryd.zeroValue9 }
open Go.RowKit Go.Lib in
theorem sh_strings_HasPrefix (s p : ByteArray) (w : World) :
    Calls Tryd.prog 28 #[.string s, .string p] w fun e w' => e = .returned (.bool (Lib.hasPrefix s.data.toList p.data.toList)) ∧ w' = w := Any.strings_HasPrefix sh_lays99 s p w
def sh_lays152_ren : Go.Shelf.Ren := ⟨fun | 152 => 60 | 137 => 61 | 119 => 71 | 224 => 72 | 225 => 73 | 217 => 74 | 266 => 85 | n => n, fun | 9 => 9 | 21 => 21 | 3 => 3 | 4 => 4 | 5 => 5 | 0 => 0 | 46 => 40 | n => n, fun | n => n⟩
theorem sh_lays152 : Go.Proofs.Lays.n152 Tryd.prog sh_lays152_ren := {
  mixed := by kernel_rfl
  f119 := Tryd.func71.trans (congrArg some (by kernel_rfl))
  f137 := Tryd.func61.trans (congrArg some (by kernel_rfl))
  f152 := Tryd.func60.trans (congrArg some (by kernel_rfl))
  f217 := Tryd.func74.trans (congrArg some (by kernel_rfl))
  f224 := Tryd.func72.trans (congrArg some (by kernel_rfl))
  f225 := Tryd.func73.trans (congrArg some (by kernel_rfl))
  f266 := Tryd.func85.trans (congrArg some (by kernel_rfl))
  t0 := Tryd.underlying0
  a0 := Tryd.isAgg0
  z0 := Tryd.sizeOf0
  v0 := Tryd.zeroValue0
  t3 := Tryd.underlying3
  a3 := Tryd.isAgg3
  z3 := Tryd.sizeOf3
  v3 := Tryd.zeroValue3
  t4 := Tryd.underlying4
  a4 := Tryd.isAgg4
  z4 := Tryd.sizeOf4
  v4 := Tryd.zeroValue4
  t5 := Tryd.underlying5
  a5 := Tryd.isAgg5
  z5 := Tryd.sizeOf5
  v5 := Tryd.zeroValue5
  t9 := Tryd.underlying9
  a9 := Tryd.isAgg9
  z9 := Tryd.sizeOf9
  v9 := Tryd.zeroValue9
  t21 := Tryd.underlying21
  a21 := Tryd.isAgg21
  z21 := Tryd.sizeOf21
  v21 := Tryd.zeroValue21
  t46 := Tryd.underlying40
  a46 := Tryd.isAgg40
  z46 := Tryd.sizeOf40
  v46 := Tryd.zeroValue40 }
open Go.RowKit Go.Lib in
theorem sh_strings_IndexRune_ascii (s : ByteArray) (r : Int) (w : World) (h0 : 0 ≤ r) (h1 : r < 128) :
    Calls Tryd.prog 60 #[.string s, .int .i32 r] w fun e w' => e = .returned (.int .i64 (Lib.indexByte s.data.toList r.toNat.toUInt8)) ∧ w' = w := Any.strings_IndexRune_ascii sh_lays152 s r w h0 h1
open Go.RowKit Go.Lib
theorem string_info : (Tryd.prog.info? 9).map (fun i => (i.zero, i.size, i.bytes)) = some (some (.string ByteArray.empty), 1, 16) := by kernel_rfl
end Go.Proofs.YtbofbkndmnidpaaDoor
