/-
  The walks over the program's own text of layer 4: two ranges that meet. The walks over the document's answer for layer 3. The walks over the document's answer for layer 3. Plain facts on EVRs and their texts as the program reads them: the digits, a cut, a number, what stands where. Nothing of the program is named here. strings.IndexByte among the signs of a version, and strings.Cut around one byte, whatever the library's variables hold. Contracts of the library that the program's dep asks, out of the shelf: ValidRune, HasPrefix, IndexRune. Nothing of the program is named here. strings.IndexRune and strings.ContainsRune among the signs of a name, at any rune that a text may hold; which runes may stand in a name. Conditions: as each theorem states.
-/
import Derived.Test.YtpdoeapjdifmbaaGreatDoorK10
import Derived.Test.YtpdoeapjdifmbaaGreatDoorK01
import Derived.Test.YtpdoeapjdifmbaaGreatDoorK02
import Derived.Test.YtpdoeapjdifmbaaGreatDoorRows
import Derived.Deep.CutRange
import Derived.Deep.CutBlock
import Derived.Handy
import Derived.Lib.Hide
import Derived.Deep.QuietTactic
import Derived.BigQuiet
import Derived.Lib.ItoaNum
import Derived.Lib.IndexMore
import Derived.Lib.Bytealg
import Derived.Lib.AtoiAll
import Derived.Lib.AtoiAllCases
import Derived.Shelf.Small.Strs
import Derived.Shelf.Strings.Search2
import Derived.WalkKit
import Derived.Shelf.Strings.Search3
import Derived.Shelf.Strings.Prefix
import Derived.Shelf.Strings.Runes
import Derived.Shelf.Small.Utf8
import Derived.Lib.IndexBytes
import Derived.Laws.Runes
import Derived.WalkMore
import Derived.Laws.RangeAny
import Derived.Lib.OthersKept
namespace Go.Proofs.YtpdoeapjdifmbaaGreatDoor
open Go.RowKit Go.Maps Span Evr

section
variable (nm : ByteArray) (o : Nat) (n : Int) (v r : ByteArray) (nb : ByteArray) (k : Nat) (m : Int) (u x : ByteArray) (w : World) (ho : o < 256) (hk : k < 256)
include ho hk
omit hk in
set_option maxRecDepth 100000 in
set_option maxHeartbeats 1000000 in
theorem meet_any1 (h : o % 8 = 0) : Calls Tryz.prog 104 #[depV nm o n v r, depV nb k m u x] w fun e w' => e = .returned (.bool (true)) ∧ Kept (fun _ => False) w w' := by
  have A1 := any_yes nm o n v r ho h
  have A2 := A1
  have hk0 : Kept (fun _ => False) w ((w.alloc (.cells #[.string nm, .int .u8 (o : Int), .int .i64 n, .string v, .string r] 60)).alloc (.cells #[.string nb, .int .u8 (k : Int), .int .i64 m, .string u, .string x] 60)) := ((Kept.refl _ _).alloc _).alloc _
  have HK := Lib.hid hk0
  have bA := (Box.made w 60 #[.string nm, .int .u8 (o : Int), .int .i64 n, .string v, .string r]).after_alloc (.cells #[.string nb, .int .u8 (k : Int), .int .i64 m, .string u, .string x] 60)
  have bB := Box.made (w.alloc (.cells #[.string nm, .int .u8 (o : Int), .int .i64 n, .string v, .string r] 60)) 60 #[.string nb, .int .u8 (k : Int), .int .i64 m, .string u, .string x]
  rw [World.size_alloc] at bB
  have HA := Lib.hid bA
  have HB := Lib.hid bB
  clear hk0 bA bB
  go_enter Tryz.func104, Tryz.ntmps104
  go_wp2_with (first
    | (go_at_call 136; (first | with_reducible refine (A1 _).mono ?_ | with_reducible refine (A2 _).mono ?_); rintro e w5 ⟨rfl, hk5⟩; have HA := Lib.hid (hk5.box HA.out (fun h => h)); have HB := Lib.hid (hk5.box HB.out (fun h => h)); have a0 := HA.out.cell 0; have b0 := HB.out.cell 0; have a1 := HA.out.cell 1; have b1 := HB.out.cell 1; have a2 := HA.out.cell 2; have b2 := HB.out.cell 2; have a3 := HA.out.cell 3; have b3 := HB.out.cell 3; have a4 := HA.out.cell 4; have b4 := HB.out.cell 4; have HK := Lib.hid (Kept.trans HK.out hk5 (fun _ _ h => h)); clear hk5)
    | fail)
  go_ret
  exact ⟨rfl, HK.out⟩
set_option maxRecDepth 100000 in
set_option maxHeartbeats 1000000 in
theorem meet_any2 (h : o % 8 ≠ 0) (h2 : k % 8 = 0) : Calls Tryz.prog 104 #[depV nm o n v r, depV nb k m u x] w fun e w' => e = .returned (.bool (true)) ∧ Kept (fun _ => False) w w' := by
  have A1 := any_no nm o n v r ho h
  have A2 := any_yes nb k m u x hk h2
  have hk0 : Kept (fun _ => False) w ((w.alloc (.cells #[.string nm, .int .u8 (o : Int), .int .i64 n, .string v, .string r] 60)).alloc (.cells #[.string nb, .int .u8 (k : Int), .int .i64 m, .string u, .string x] 60)) := ((Kept.refl _ _).alloc _).alloc _
  have HK := Lib.hid hk0
  have bA := (Box.made w 60 #[.string nm, .int .u8 (o : Int), .int .i64 n, .string v, .string r]).after_alloc (.cells #[.string nb, .int .u8 (k : Int), .int .i64 m, .string u, .string x] 60)
  have bB := Box.made (w.alloc (.cells #[.string nm, .int .u8 (o : Int), .int .i64 n, .string v, .string r] 60)) 60 #[.string nb, .int .u8 (k : Int), .int .i64 m, .string u, .string x]
  rw [World.size_alloc] at bB
  have HA := Lib.hid bA
  have HB := Lib.hid bB
  clear hk0 bA bB
  go_enter Tryz.func104, Tryz.ntmps104
  go_wp2_with (first
    | (go_at_call 136; (first | with_reducible refine (A1 _).mono ?_ | with_reducible refine (A2 _).mono ?_); rintro e w5 ⟨rfl, hk5⟩; have HA := Lib.hid (hk5.box HA.out (fun h => h)); have HB := Lib.hid (hk5.box HB.out (fun h => h)); have a0 := HA.out.cell 0; have b0 := HB.out.cell 0; have a1 := HA.out.cell 1; have b1 := HB.out.cell 1; have a2 := HA.out.cell 2; have b2 := HB.out.cell 2; have a3 := HA.out.cell 3; have b3 := HB.out.cell 3; have a4 := HA.out.cell 4; have b4 := HB.out.cell 4; have HK := Lib.hid (Kept.trans HK.out hk5 (fun _ _ h => h)); clear hk5)
    | fail)
  go_ret
  exact ⟨rfl, HK.out⟩
set_option maxRecDepth 100000 in
set_option maxHeartbeats 1000000 in
theorem meet_less1 (h : o % 8 ≠ 0) (h2 : k % 8 ≠ 0) (q : bits .and .u8 (o : Int) 4 = 4) (C1 : ∀ W, Calls Tryz.prog 137 #[.agg #[.int .i64 n, .string v, .string r], .agg #[.int .i64 m, .string u, .string x]] W fun e w' => e = .returned (.int .i64 (-1)) ∧ Kept (fun _ => False) W w') : Calls Tryz.prog 104 #[depV nm o n v r, depV nb k m u x] w fun e w' => e = .returned (.bool (true)) ∧ Kept (fun _ => False) w w' := by
  have A1 := any_no nm o n v r ho h
  have A2 := any_no nb k m u x hk h2
  have hk0 : Kept (fun _ => False) w ((w.alloc (.cells #[.string nm, .int .u8 (o : Int), .int .i64 n, .string v, .string r] 60)).alloc (.cells #[.string nb, .int .u8 (k : Int), .int .i64 m, .string u, .string x] 60)) := ((Kept.refl _ _).alloc _).alloc _
  have HK := Lib.hid hk0
  have bA := (Box.made w 60 #[.string nm, .int .u8 (o : Int), .int .i64 n, .string v, .string r]).after_alloc (.cells #[.string nb, .int .u8 (k : Int), .int .i64 m, .string u, .string x] 60)
  have bB := Box.made (w.alloc (.cells #[.string nm, .int .u8 (o : Int), .int .i64 n, .string v, .string r] 60)) 60 #[.string nb, .int .u8 (k : Int), .int .i64 m, .string u, .string x]
  rw [World.size_alloc] at bB
  have HA := Lib.hid bA
  have HB := Lib.hid bB
  clear hk0 bA bB
  go_enter Tryz.func104, Tryz.ntmps104
  go_wp2_with (first
    | (go_at_call 136; (first | with_reducible refine (A1 _).mono ?_ | with_reducible refine (A2 _).mono ?_); rintro e w5 ⟨rfl, hk5⟩; have HA := Lib.hid (hk5.box HA.out (fun h => h)); have HB := Lib.hid (hk5.box HB.out (fun h => h)); have a0 := HA.out.cell 0; have b0 := HB.out.cell 0; have a1 := HA.out.cell 1; have b1 := HB.out.cell 1; have a2 := HA.out.cell 2; have b2 := HB.out.cell 2; have a3 := HA.out.cell 3; have b3 := HB.out.cell 3; have a4 := HA.out.cell 4; have b4 := HB.out.cell 4; have HK := Lib.hid (Kept.trans HK.out hk5 (fun _ _ h => h)); clear hk5)
    | (go_at_call 137; with_reducible refine (C1 _).mono ?_; rintro e w5 ⟨rfl, hk5⟩; have HA := Lib.hid (hk5.box HA.out (fun h => h)); have HB := Lib.hid (hk5.box HB.out (fun h => h)); have a0 := HA.out.cell 0; have b0 := HB.out.cell 0; have a1 := HA.out.cell 1; have b1 := HB.out.cell 1; have a2 := HA.out.cell 2; have b2 := HB.out.cell 2; have a3 := HA.out.cell 3; have b3 := HB.out.cell 3; have a4 := HA.out.cell 4; have b4 := HB.out.cell 4; have HK := Lib.hid (Kept.trans HK.out hk5 (fun _ _ h => h)); clear hk5)
    | fail)
  go_ret
  exact ⟨rfl, HK.out⟩
set_option maxRecDepth 100000 in
set_option maxHeartbeats 1000000 in
theorem meet_less0 (h : o % 8 ≠ 0) (h2 : k % 8 ≠ 0) (q : bits .and .u8 (o : Int) 4 = 0) (C1 : ∀ W, Calls Tryz.prog 137 #[.agg #[.int .i64 n, .string v, .string r], .agg #[.int .i64 m, .string u, .string x]] W fun e w' => e = .returned (.int .i64 (-1)) ∧ Kept (fun _ => False) W w') : Calls Tryz.prog 104 #[depV nm o n v r, depV nb k m u x] w fun e w' => e = .returned (.bool (bits .and .u8 (k : Int) 1 != 0)) ∧ Kept (fun _ => False) w w' := by
  have A1 := any_no nm o n v r ho h
  have A2 := any_no nb k m u x hk h2
  have hk0 : Kept (fun _ => False) w ((w.alloc (.cells #[.string nm, .int .u8 (o : Int), .int .i64 n, .string v, .string r] 60)).alloc (.cells #[.string nb, .int .u8 (k : Int), .int .i64 m, .string u, .string x] 60)) := ((Kept.refl _ _).alloc _).alloc _
  have HK := Lib.hid hk0
  have bA := (Box.made w 60 #[.string nm, .int .u8 (o : Int), .int .i64 n, .string v, .string r]).after_alloc (.cells #[.string nb, .int .u8 (k : Int), .int .i64 m, .string u, .string x] 60)
  have bB := Box.made (w.alloc (.cells #[.string nm, .int .u8 (o : Int), .int .i64 n, .string v, .string r] 60)) 60 #[.string nb, .int .u8 (k : Int), .int .i64 m, .string u, .string x]
  rw [World.size_alloc] at bB
  have HA := Lib.hid bA
  have HB := Lib.hid bB
  clear hk0 bA bB
  go_enter Tryz.func104, Tryz.ntmps104
  go_wp2_with (first
    | (go_at_call 136; (first | with_reducible refine (A1 _).mono ?_ | with_reducible refine (A2 _).mono ?_); rintro e w5 ⟨rfl, hk5⟩; have HA := Lib.hid (hk5.box HA.out (fun h => h)); have HB := Lib.hid (hk5.box HB.out (fun h => h)); have a0 := HA.out.cell 0; have b0 := HB.out.cell 0; have a1 := HA.out.cell 1; have b1 := HB.out.cell 1; have a2 := HA.out.cell 2; have b2 := HB.out.cell 2; have a3 := HA.out.cell 3; have b3 := HB.out.cell 3; have a4 := HA.out.cell 4; have b4 := HB.out.cell 4; have HK := Lib.hid (Kept.trans HK.out hk5 (fun _ _ h => h)); clear hk5)
    | (go_at_call 137; with_reducible refine (C1 _).mono ?_; rintro e w5 ⟨rfl, hk5⟩; have HA := Lib.hid (hk5.box HA.out (fun h => h)); have HB := Lib.hid (hk5.box HB.out (fun h => h)); have a0 := HA.out.cell 0; have b0 := HB.out.cell 0; have a1 := HA.out.cell 1; have b1 := HB.out.cell 1; have a2 := HA.out.cell 2; have b2 := HB.out.cell 2; have a3 := HA.out.cell 3; have b3 := HB.out.cell 3; have a4 := HA.out.cell 4; have b4 := HB.out.cell 4; have HK := Lib.hid (Kept.trans HK.out hk5 (fun _ _ h => h)); clear hk5)
    | fail)
  go_ret
  exact ⟨rfl, HK.out⟩
set_option maxRecDepth 100000 in
set_option maxHeartbeats 1000000 in
theorem meet_more1 (h : o % 8 ≠ 0) (h2 : k % 8 ≠ 0) (q : bits .and .u8 (o : Int) 1 = 1) (C1 : ∀ W, Calls Tryz.prog 137 #[.agg #[.int .i64 n, .string v, .string r], .agg #[.int .i64 m, .string u, .string x]] W fun e w' => e = .returned (.int .i64 (1)) ∧ Kept (fun _ => False) W w') : Calls Tryz.prog 104 #[depV nm o n v r, depV nb k m u x] w fun e w' => e = .returned (.bool (true)) ∧ Kept (fun _ => False) w w' := by
  have A1 := any_no nm o n v r ho h
  have A2 := any_no nb k m u x hk h2
  have hk0 : Kept (fun _ => False) w ((w.alloc (.cells #[.string nm, .int .u8 (o : Int), .int .i64 n, .string v, .string r] 60)).alloc (.cells #[.string nb, .int .u8 (k : Int), .int .i64 m, .string u, .string x] 60)) := ((Kept.refl _ _).alloc _).alloc _
  have HK := Lib.hid hk0
  have bA := (Box.made w 60 #[.string nm, .int .u8 (o : Int), .int .i64 n, .string v, .string r]).after_alloc (.cells #[.string nb, .int .u8 (k : Int), .int .i64 m, .string u, .string x] 60)
  have bB := Box.made (w.alloc (.cells #[.string nm, .int .u8 (o : Int), .int .i64 n, .string v, .string r] 60)) 60 #[.string nb, .int .u8 (k : Int), .int .i64 m, .string u, .string x]
  rw [World.size_alloc] at bB
  have HA := Lib.hid bA
  have HB := Lib.hid bB
  clear hk0 bA bB
  go_enter Tryz.func104, Tryz.ntmps104
  go_wp2_with (first
    | (go_at_call 136; (first | with_reducible refine (A1 _).mono ?_ | with_reducible refine (A2 _).mono ?_); rintro e w5 ⟨rfl, hk5⟩; have HA := Lib.hid (hk5.box HA.out (fun h => h)); have HB := Lib.hid (hk5.box HB.out (fun h => h)); have a0 := HA.out.cell 0; have b0 := HB.out.cell 0; have a1 := HA.out.cell 1; have b1 := HB.out.cell 1; have a2 := HA.out.cell 2; have b2 := HB.out.cell 2; have a3 := HA.out.cell 3; have b3 := HB.out.cell 3; have a4 := HA.out.cell 4; have b4 := HB.out.cell 4; have HK := Lib.hid (Kept.trans HK.out hk5 (fun _ _ h => h)); clear hk5)
    | (go_at_call 137; with_reducible refine (C1 _).mono ?_; rintro e w5 ⟨rfl, hk5⟩; have HA := Lib.hid (hk5.box HA.out (fun h => h)); have HB := Lib.hid (hk5.box HB.out (fun h => h)); have a0 := HA.out.cell 0; have b0 := HB.out.cell 0; have a1 := HA.out.cell 1; have b1 := HB.out.cell 1; have a2 := HA.out.cell 2; have b2 := HB.out.cell 2; have a3 := HA.out.cell 3; have b3 := HB.out.cell 3; have a4 := HA.out.cell 4; have b4 := HB.out.cell 4; have HK := Lib.hid (Kept.trans HK.out hk5 (fun _ _ h => h)); clear hk5)
    | fail)
  go_ret
  exact ⟨rfl, HK.out⟩
set_option maxRecDepth 100000 in
set_option maxHeartbeats 1000000 in
theorem meet_more0 (h : o % 8 ≠ 0) (h2 : k % 8 ≠ 0) (q : bits .and .u8 (o : Int) 1 = 0) (C1 : ∀ W, Calls Tryz.prog 137 #[.agg #[.int .i64 n, .string v, .string r], .agg #[.int .i64 m, .string u, .string x]] W fun e w' => e = .returned (.int .i64 (1)) ∧ Kept (fun _ => False) W w') : Calls Tryz.prog 104 #[depV nm o n v r, depV nb k m u x] w fun e w' => e = .returned (.bool (bits .and .u8 (k : Int) 4 != 0)) ∧ Kept (fun _ => False) w w' := by
  have A1 := any_no nm o n v r ho h
  have A2 := any_no nb k m u x hk h2
  have hk0 : Kept (fun _ => False) w ((w.alloc (.cells #[.string nm, .int .u8 (o : Int), .int .i64 n, .string v, .string r] 60)).alloc (.cells #[.string nb, .int .u8 (k : Int), .int .i64 m, .string u, .string x] 60)) := ((Kept.refl _ _).alloc _).alloc _
  have HK := Lib.hid hk0
  have bA := (Box.made w 60 #[.string nm, .int .u8 (o : Int), .int .i64 n, .string v, .string r]).after_alloc (.cells #[.string nb, .int .u8 (k : Int), .int .i64 m, .string u, .string x] 60)
  have bB := Box.made (w.alloc (.cells #[.string nm, .int .u8 (o : Int), .int .i64 n, .string v, .string r] 60)) 60 #[.string nb, .int .u8 (k : Int), .int .i64 m, .string u, .string x]
  rw [World.size_alloc] at bB
  have HA := Lib.hid bA
  have HB := Lib.hid bB
  clear hk0 bA bB
  go_enter Tryz.func104, Tryz.ntmps104
  go_wp2_with (first
    | (go_at_call 136; (first | with_reducible refine (A1 _).mono ?_ | with_reducible refine (A2 _).mono ?_); rintro e w5 ⟨rfl, hk5⟩; have HA := Lib.hid (hk5.box HA.out (fun h => h)); have HB := Lib.hid (hk5.box HB.out (fun h => h)); have a0 := HA.out.cell 0; have b0 := HB.out.cell 0; have a1 := HA.out.cell 1; have b1 := HB.out.cell 1; have a2 := HA.out.cell 2; have b2 := HB.out.cell 2; have a3 := HA.out.cell 3; have b3 := HB.out.cell 3; have a4 := HA.out.cell 4; have b4 := HB.out.cell 4; have HK := Lib.hid (Kept.trans HK.out hk5 (fun _ _ h => h)); clear hk5)
    | (go_at_call 137; with_reducible refine (C1 _).mono ?_; rintro e w5 ⟨rfl, hk5⟩; have HA := Lib.hid (hk5.box HA.out (fun h => h)); have HB := Lib.hid (hk5.box HB.out (fun h => h)); have a0 := HA.out.cell 0; have b0 := HB.out.cell 0; have a1 := HA.out.cell 1; have b1 := HB.out.cell 1; have a2 := HA.out.cell 2; have b2 := HB.out.cell 2; have a3 := HA.out.cell 3; have b3 := HB.out.cell 3; have a4 := HA.out.cell 4; have b4 := HB.out.cell 4; have HK := Lib.hid (Kept.trans HK.out hk5 (fun _ _ h => h)); clear hk5)
    | fail)
  go_ret
  exact ⟨rfl, HK.out⟩
set_option maxRecDepth 100000 in
set_option maxHeartbeats 1000000 in
theorem meet_same (h : o % 8 ≠ 0) (h2 : k % 8 ≠ 0) (C1 : ∀ W, Calls Tryz.prog 137 #[.agg #[.int .i64 n, .string v, .string r], .agg #[.int .i64 m, .string u, .string x]] W fun e w' => e = .returned (.int .i64 (0)) ∧ Kept (fun _ => False) W w') : Calls Tryz.prog 104 #[depV nm o n v r, depV nb k m u x] w fun e w' => e = .returned (.bool (bits .and .u8 (bits .and .u8 (o : Int) (k : Int)) 7 != 0)) ∧ Kept (fun _ => False) w w' := by
  have A1 := any_no nm o n v r ho h
  have A2 := any_no nb k m u x hk h2
  have hk0 : Kept (fun _ => False) w ((w.alloc (.cells #[.string nm, .int .u8 (o : Int), .int .i64 n, .string v, .string r] 60)).alloc (.cells #[.string nb, .int .u8 (k : Int), .int .i64 m, .string u, .string x] 60)) := ((Kept.refl _ _).alloc _).alloc _
  have HK := Lib.hid hk0
  have bA := (Box.made w 60 #[.string nm, .int .u8 (o : Int), .int .i64 n, .string v, .string r]).after_alloc (.cells #[.string nb, .int .u8 (k : Int), .int .i64 m, .string u, .string x] 60)
  have bB := Box.made (w.alloc (.cells #[.string nm, .int .u8 (o : Int), .int .i64 n, .string v, .string r] 60)) 60 #[.string nb, .int .u8 (k : Int), .int .i64 m, .string u, .string x]
  rw [World.size_alloc] at bB
  have HA := Lib.hid bA
  have HB := Lib.hid bB
  clear hk0 bA bB
  go_enter Tryz.func104, Tryz.ntmps104
  go_wp2_with (first
    | (go_at_call 136; (first | with_reducible refine (A1 _).mono ?_ | with_reducible refine (A2 _).mono ?_); rintro e w5 ⟨rfl, hk5⟩; have HA := Lib.hid (hk5.box HA.out (fun h => h)); have HB := Lib.hid (hk5.box HB.out (fun h => h)); have a0 := HA.out.cell 0; have b0 := HB.out.cell 0; have a1 := HA.out.cell 1; have b1 := HB.out.cell 1; have a2 := HA.out.cell 2; have b2 := HB.out.cell 2; have a3 := HA.out.cell 3; have b3 := HB.out.cell 3; have a4 := HA.out.cell 4; have b4 := HB.out.cell 4; have HK := Lib.hid (Kept.trans HK.out hk5 (fun _ _ h => h)); clear hk5)
    | (go_at_call 137; with_reducible refine (C1 _).mono ?_; rintro e w5 ⟨rfl, hk5⟩; have HA := Lib.hid (hk5.box HA.out (fun h => h)); have HB := Lib.hid (hk5.box HB.out (fun h => h)); have a0 := HA.out.cell 0; have b0 := HB.out.cell 0; have a1 := HA.out.cell 1; have b1 := HB.out.cell 1; have a2 := HA.out.cell 2; have b2 := HB.out.cell 2; have a3 := HA.out.cell 3; have b3 := HB.out.cell 3; have a4 := HA.out.cell 4; have b4 := HB.out.cell 4; have HK := Lib.hid (Kept.trans HK.out hk5 (fun _ _ h => h)); clear hk5)
    | fail)
  go_ret
  exact ⟨rfl, HK.out⟩
theorem meet_k (hv : v.size ≤ 140737488355327) (hr : r.size ≤ 140737488355327) (hu : u.size ≤ 140737488355327) (hx : x.size ≤ 140737488355327) : Calls Tryz.prog 104 #[depV nm o n v r, depV nb k m u x] w fun e w' => e = .returned (.bool (meetO o k (cmpE (evrE n v r) (evrE m u x)))) ∧ Kept (fun _ => False) w w' := by
  have hC := fun W => compareK_walk n m v r u x W hv hr hu hx
  have h3 := three (e_range (evrE n v r) (evrE m u x))
  by_cases h : o % 8 = 0
  · have e : ∀ c, meetO o k c = true := fun c => by unfold meetO; simp [h]
    rw [e]
    exact meet_any1 nm o n v r nb k m u x w ho h
  · have h0 : (o % 8 == 0) = false := by simp [h]
    by_cases h2 : k % 8 = 0
    · have e : ∀ c, meetO o k c = true := fun c => by unfold meetO; simp [h2]
      rw [e]
      exact meet_any2 nm o n v r nb k m u x w ho hk h h2
    · have h4 : (k % 8 == 0) = false := by simp [h2]
      rcases h3 with h3 | h3 | h3
      · rw [h3] at hC ⊢
        by_cases q : o / 4 % 2 = 1
        · have e : meetO o k (-1) = true := by simp [meetO, q]
          rw [e]
          exact meet_less1 nm o n v r nb k m u x w ho hk h h2 (by rw [bit_four o ho, q]; rfl) hC
        · have e : meetO o k (-1) = (bits .and .u8 (k : Int) 1 != 0) := by
            rw [bit_one k hk, Bool.eq_iff_iff]; simp [meetO, h0, h4, q]; omega
          rw [e]
          exact meet_less0 nm o n v r nb k m u x w ho hk h h2 (by rw [bit_four o ho, show o / 4 % 2 = 0 by omega]; rfl) hC
      · rw [h3] at hC ⊢
        have e : meetO o k 0 = (bits .and .u8 (bits .and .u8 (o : Int) (k : Int)) 7 != 0) := by
          have hb := both_bits o k
          rw [both_seven o k ho hk, Bool.eq_iff_iff]
          simp only [meetO, h0, h4, Bool.false_or, Int.lt_irrefl, if_false, bne_iff_ne, ne_eq, Bool.or_eq_true, Bool.and_eq_true, beq_iff_eq]
          rw [show ((((o % 8) &&& (k % 8) : Nat) : Int) = 0) = (((o % 8) &&& (k % 8)) = 0) from propext Int.ofNat_eq_zero]
          rw [← ne_eq, hb, or_assoc]
        rw [e]
        exact meet_same nm o n v r nb k m u x w ho hk h h2 hC
      · rw [h3] at hC ⊢
        by_cases q : o % 2 = 1
        · have e : meetO o k 1 = true := by simp [meetO, q]
          rw [e]
          exact meet_more1 nm o n v r nb k m u x w ho hk h h2 (by rw [bit_one o ho, q]; rfl) hC
        · have e : meetO o k 1 = (bits .and .u8 (k : Int) 4 != 0) := by
            rw [bit_four k hk, Bool.eq_iff_iff]; simp [meetO, h0, h4, q]; omega
          rw [e]
          exact meet_more0 nm o n v r nb k m u x w ho hk h h2 (by rw [bit_one o ho, show o % 2 = 0 by omega]; rfl) hC
end
end Go.Proofs.YtpdoeapjdifmbaaGreatDoor

namespace Go.Proofs.YtpdoeapjdifmbaaGreatDoor
open Go.RowKit Ver Evr

theorem take_ok {s : List UInt8} {i : Nat} {c : UInt8} (h : (s.take i).all okB = true) (hc : s[i]? = some c) (hok : okB c = true) : (s.take (i + 1)).all okB = true := by
  rw [List.take_add_one, hc, List.all_append, h]
  simp [hok]
theorem word_not {s : List UInt8} {i : Nat} {c : UInt8} (hc : s[i]? = some c) (hok : okB c = false) : wordE s = false := by
  unfold wordE
  have : s.all okB = false := by
    rw [List.all_eq_false]
    exact ⟨c, List.mem_of_getElem? hc, by simp [hok]⟩
  rw [this]
  rfl

end Go.Proofs.YtpdoeapjdifmbaaGreatDoor

namespace Go.Proofs.YtpdoeapjdifmbaaGreatDoor
open Go.RowKit Ver Evr

/-- An EVR. -/
theorem may_low {n : Int} {v r : ByteArray} {dep : Bool} (h : n < 0 ∨ 2147483647 < n) : mayE (evrE n v r) dep = false := by
  unfold mayE evrE
  rcases h with h | h
  · simp [show ¬ 0 ≤ n by omega]
  · simp [show ¬ n ≤ 2147483647 by omega]
theorem may_ver {n : Int} {v r : ByteArray} {dep : Bool} (h : wordE v.data.toList = false) : mayE (evrE n v r) dep = false := by unfold mayE evrE; simp [h]
theorem may_dep {n : Int} {v : ByteArray} {dep : Bool} (h0 : 0 ≤ n) (h1 : n ≤ 2147483647) (h : wordE v.data.toList = true) : mayE (evrE n v ⟨#[]⟩) dep = dep := by unfold mayE evrE; simp [h, h0, h1]
theorem may_rel {n : Int} {v r : ByteArray} {dep : Bool} (h0 : 0 ≤ n) (h1 : n ≤ 2147483647) (h : wordE v.data.toList = true) (hr : r ≠ ⟨#[]⟩) : mayE (evrE n v r) dep = wordE r.data.toList := by
  unfold mayE evrE
  simp only [h, h0, h1, decide_true, Bool.true_and, if_neg (fun e => hr (empty_text.1 e))]

end Go.Proofs.YtpdoeapjdifmbaaGreatDoor

namespace Go.Proofs.YtpdoeapjdifmbaaGreatDoor
namespace Evr
open Ver

/-- A byte that is no letter and no digit, among the signs. -/
theorem sign_index (b : UInt8) : decide (0 ≤ Lib.indexByte [46, 95, 43, 126, 94] b) = (decide (b.toNat = 46) || decide (b.toNat = 95) || decide (b.toNat = 43) || decide (b.toNat = 126) || decide (b.toNat = 94)) := by
  have key : ((List.range 256).all fun n => decide (0 ≤ Lib.indexByte [46, 95, 43, 126, 94] (UInt8.ofNat n)) == (decide (n = 46) || decide (n = 95) || decide (n = 43) || decide (n = 126) || decide (n = 94))) = true := by kernel_rfl
  have h := List.all_eq_true.1 key b.toNat (List.mem_range.2 (UInt8.toNat_lt b))
  have hb : UInt8.ofNat b.toNat = b := by simp
  rw [hb] at h
  simpa using h
end Evr
end Go.Proofs.YtpdoeapjdifmbaaGreatDoor

namespace Go.Proofs.YtpdoeapjdifmbaaGreatDoor
open Go.Shelf
def sh_lays137_ren : Go.Shelf.Ren := ⟨fun | 137 => 199 | 217 => 219 | 266 => 229 | n => n, fun | 9 => 9 | 5 => 5 | 3 => 3 | n => n, fun | n => n⟩
theorem sh_lays137 : Go.Proofs.Lays.n137 Tryz.prog sh_lays137_ren := {
  mixed := by kernel_rfl
  f137 := Tryz.func199.trans (congrArg some (by kernel_rfl))
  f217 := Tryz.func219.trans (congrArg some (by kernel_rfl))
  f266 := Tryz.func229.trans (congrArg some (by kernel_rfl))
  t3 := Tryz.underlying3
  a3 := Tryz.isAgg3
  z3 := Tryz.sizeOf3
  v3 := Tryz.zeroValue3
  t5 := Tryz.underlying5
  a5 := Tryz.isAgg5
  z5 := Tryz.sizeOf5
  v5 := Tryz.zeroValue5
  t9 := Tryz.underlying9
  a9 := Tryz.isAgg9
  z9 := Tryz.sizeOf9
  v9 := Tryz.zeroValue9 }
open Go.RowKit in
theorem sh_strings_IndexByte (s : ByteArray) (c : Int) (w : World) :
    Calls Tryz.prog 199 #[.string s, .int .u8 c] w fun e w' => e = .returned (.int .i64 (Lib.indexByte s.data.toList c.toNat.toUInt8)) ∧ w' = w := Any.strings_IndexByte sh_lays137 s c w
open Go.RowKit Ver Evr
theorem index_sign (b : UInt8) (w : World) :
    Calls Tryz.prog 199 #[.string ⟨#[46, 95, 43, 126, 94]⟩, .int .u8 (b.toNat : Int)] w fun e w' => e = .returned (.int .i64 (Lib.indexByte [46, 95, 43, 126, 94] b)) ∧ w' = w :=
  (sh_strings_IndexByte ⟨#[46, 95, 43, 126, 94]⟩ (b.toNat : Int) w).mono fun e w' ⟨h1, h2⟩ => ⟨by rw [h1]; simp, h2⟩
end Go.Proofs.YtpdoeapjdifmbaaGreatDoor

namespace Go.Proofs.YtpdoeapjdifmbaaGreatDoor
open Go.Shelf
def sh_lays119_ren : Go.Shelf.Ren := ⟨fun | 119 => 216 | n => n, fun | 21 => 21 | 4 => 4 | n => n, fun | n => n⟩
theorem sh_lays119 : Go.Proofs.Lays.n119 Tryz.prog sh_lays119_ren := {
  mixed := by kernel_rfl
  f119 := Tryz.func216.trans (congrArg some (by kernel_rfl))
  t4 := Tryz.underlying4
  a4 := Tryz.isAgg4
  z4 := Tryz.sizeOf4
  v4 := Tryz.zeroValue4
  t21 := Tryz.underlying21
  a21 := Tryz.isAgg21
  z21 := Tryz.sizeOf21
  v21 := Tryz.zeroValue21 }
theorem sh_utf8_ValidRune (r : Int) (w : World) :
    Calls Tryz.prog 216 #[.int .i32 r] w fun e w' => e = .returned (.bool (Lib.validRune r)) ∧ w' = w := Any.utf8_ValidRune sh_lays119 r w
def sh_lays99_ren : Go.Shelf.Ren := ⟨fun | 99 => 139 | 206 => 178 | n => n, fun | 9 => 9 | 4 => 4 | 3 => 3 | n => n, fun | n => n⟩
theorem sh_lays99 : Go.Proofs.Lays.n99 Tryz.prog sh_lays99_ren := {
  mixed := by kernel_rfl
  f99 := Tryz.func139.trans (congrArg some (by kernel_rfl))
  f206 := Tryz.func178.trans (congrArg some (by kernel_rfl))
  t3 := Tryz.underlying3
  a3 := Tryz.isAgg3
  z3 := Tryz.sizeOf3
  v3 := Tryz.zeroValue3
  t4 := Tryz.underlying4
  a4 := Tryz.isAgg4
  z4 := Tryz.sizeOf4
  v4 := Tryz.zeroValue4
  t9 := Tryz.underlying9
  a9 := Tryz.isAgg9
  z9 := Tryz.sizeOf9
  v9 := Tryz.zeroValue9 }
open Go.RowKit Go.Lib in
theorem sh_strings_HasPrefix (s p : ByteArray) (w : World) :
    Calls Tryz.prog 139 #[.string s, .string p] w fun e w' => e = .returned (.bool (Lib.hasPrefix s.data.toList p.data.toList)) ∧ w' = w := Any.strings_HasPrefix sh_lays99 s p w
def sh_lays152_ren : Go.Shelf.Ren := ⟨fun | 152 => 198 | 137 => 199 | 119 => 216 | 224 => 217 | 225 => 218 | 217 => 219 | 266 => 229 | n => n, fun | 9 => 9 | 21 => 21 | 3 => 3 | 4 => 4 | 5 => 5 | 0 => 0 | 46 => 113 | n => n, fun | n => n⟩
theorem sh_lays152 : Go.Proofs.Lays.n152 Tryz.prog sh_lays152_ren := {
  mixed := by kernel_rfl
  f119 := Tryz.func216.trans (congrArg some (by kernel_rfl))
  f137 := Tryz.func199.trans (congrArg some (by kernel_rfl))
  f152 := Tryz.func198.trans (congrArg some (by kernel_rfl))
  f217 := Tryz.func219.trans (congrArg some (by kernel_rfl))
  f224 := Tryz.func217.trans (congrArg some (by kernel_rfl))
  f225 := Tryz.func218.trans (congrArg some (by kernel_rfl))
  f266 := Tryz.func229.trans (congrArg some (by kernel_rfl))
  t0 := Tryz.underlying0
  a0 := Tryz.isAgg0
  z0 := Tryz.sizeOf0
  v0 := Tryz.zeroValue0
  t3 := Tryz.underlying3
  a3 := Tryz.isAgg3
  z3 := Tryz.sizeOf3
  v3 := Tryz.zeroValue3
  t4 := Tryz.underlying4
  a4 := Tryz.isAgg4
  z4 := Tryz.sizeOf4
  v4 := Tryz.zeroValue4
  t5 := Tryz.underlying5
  a5 := Tryz.isAgg5
  z5 := Tryz.sizeOf5
  v5 := Tryz.zeroValue5
  t9 := Tryz.underlying9
  a9 := Tryz.isAgg9
  z9 := Tryz.sizeOf9
  v9 := Tryz.zeroValue9
  t21 := Tryz.underlying21
  a21 := Tryz.isAgg21
  z21 := Tryz.sizeOf21
  v21 := Tryz.zeroValue21
  t46 := Tryz.underlying113
  a46 := Tryz.isAgg113
  z46 := Tryz.sizeOf113
  v46 := Tryz.zeroValue113 }
open Go.RowKit Go.Lib in
theorem sh_strings_IndexRune_ascii (s : ByteArray) (r : Int) (w : World) (h0 : 0 ≤ r) (h1 : r < 128) :
    Calls Tryz.prog 198 #[.string s, .int .i32 r] w fun e w' => e = .returned (.int .i64 (Lib.indexByte s.data.toList r.toNat.toUInt8)) ∧ w' = w := Any.strings_IndexRune_ascii sh_lays152 s r w h0 h1
open Go.RowKit Go.Lib
end Go.Proofs.YtpdoeapjdifmbaaGreatDoor

namespace Go.Proofs.YtpdoeapjdifmbaaGreatDoor
open Go.RowKit Ver Evr Dep

/-- The signs that may stand in a name. -/
abbrev signs9 : ByteArray := ⟨#[46, 95, 43, 45, 47, 58, 64, 126, 94]⟩
theorem signs_low : ∀ (pos : Nat) (h : pos < signs9.size), (signs9[pos]'h).toNat < 128 := by decide
theorem signs_all : ∀ b ∈ signs9.data.toList, b.toNat < 128 := by decide
theorem sign_none (a e : Nat) (c : UInt8) (hc : 128 ≤ c.toNat) : Lib.indexByte (signs9.extract a e).data.toList c = -1 := by
  rw [← Lib.firstIdx_eq]
  exact firstIdx_ascii signs9 a e c signs_all hc

set_option maxRecDepth 100000 in
set_option maxHeartbeats 2000000 in
theorem rune_low (b : UInt8) (hb : b.toNat < 128) (w : World) :
    Calls Tryz.prog 198 #[.string signs9, .int .i32 (b.toNat : Int)] w fun e w' => e = .returned (.int .i64 (Lib.indexByte signs9.data.toList b)) ∧ w' = w :=
  (sh_strings_IndexRune_ascii signs9 (b.toNat : Int) w (by omega) (by omega)).mono fun e w' ⟨h1, h2⟩ => ⟨by rw [h1]; simp, h2⟩

set_option maxRecDepth 100000 in
set_option maxHeartbeats 2000000 in
theorem rune_err (w : World) :
    Calls Tryz.prog 198 #[.string signs9, .int .i32 65533] w fun e w' => e = .returned (.int .i64 (-1)) ∧ Kept (fun _ => False) w w' := by
  go_enter Tryz.func198, Tryz.ntmps198
  go_wp2_with fail
  go_loopw [] (fun wr => ∃ pos : Nat, wr = w.iter signs9 pos ∧ pos ≤ 9) (fun wr => 9 - wr.iterPos w.heap.size)
  case atStart => exact ⟨0, rfl, by omega⟩
  case round =>
    obtain ⟨pos, rfl, hp⟩ := hrel
    by_cases h : pos < 9
    · have hnx : ∀ ty, (Instr.next (.pointer (some ⟨w.heap.size, 0, none⟩)) true ty).run Tryz.prog (w.iter signs9 pos) = _ := fun ty => run_next_ascii w signs9 pos ty h (signs_low pos h)
      have hlow := signs_low pos h
      generalize (signs9[pos]'h).toNat = R at hnx hlow
      have hne : ((R : Int) == 65533) = false := by simp; omega
      go_wp2_with fail
      go_roundw
      case rel => exact ⟨pos + 1, rfl, by omega⟩
      case measure => simp; omega
    · have hnx : ∀ ty, (Instr.next (.pointer (some ⟨w.heap.size, 0, none⟩)) true ty).run Tryz.prog (w.iter signs9 pos) = _ := fun ty => run_next_end w signs9 pos ty (by show ¬ pos < 9; exact h)
      go_wp2_with fail
      go_ret
      exact ⟨rfl, (Kept.refl _ _).alloc _⟩
set_option maxRecDepth 100000 in
set_option maxHeartbeats 2000000 in
theorem rune_bad (r : Int) (h0 : 128 ≤ r) (he : r ≠ 65533) (hv : Lib.validRune r = false) (w : World) :
    Calls Tryz.prog 198 #[.string signs9, .int .i32 r] w fun e w' => e = .returned (.int .i64 (-1)) ∧ Kept (fun _ => False) w w' := by
  have hV : ∀ W, Calls Tryz.prog 216 #[.int .i32 r] W fun e w' => e = .returned (.bool false) ∧ w' = W := fun W => by
    have := sh_utf8_ValidRune r W
    rw [hv] at this
    exact this
  have g1 : decide (r < 128) = false := by simp; omega
  have g2 : (r == 65533) = false := by simp; exact he
  have g3 : decide (0 ≤ r) = true := by simp; omega
  clear hv he
  go_enter Tryz.func198, Tryz.ntmps198
  go_wp2_with (go_at_call 216; with_reducible refine (hV _).mono ?_; rintro e w1 ⟨rfl, rfl⟩)
  go_ret
  exact ⟨rfl, Kept.refl _ _⟩
set_option maxRecDepth 100000 in
set_option maxHeartbeats 2000000 in
theorem rune_high (r : Int) (h0 : 128 ≤ r) (he : r ≠ 65533) (hv : Lib.validRune r = true) (w : World) :
    Calls Tryz.prog 198 #[.string signs9, .int .i32 r] w fun e w' => e = .returned (.int .i64 (-1)) ∧ Kept (fun _ => False) w w' := by
  have hV : ∀ W, Calls Tryz.prog 216 #[.int .i32 r] W fun e w' => e = .returned (.bool true) ∧ w' = W := fun W => by
    have := sh_utf8_ValidRune r W
    rw [hv] at this
    exact this
  obtain ⟨hs2, hs4, hlast⟩ := encode_facts r (by rw [validRune_eq]; exact hv) h0
  have hconv : ∀ W, (convert 21 9 (.int .i32 r)).run Tryz.prog W = .ok (.string (Utf8.encode r)) W := fun W => run_convert_int_string W _ _ _ _ (by kernel_rfl) Tryz.underlying9
  generalize Utf8.encode r = E at hconv hs2 hs4 hlast
  have g1 : decide (r < 128) = false := by simp; omega
  have g2 : (r == 65533) = false := by simp; exact he
  have g3 : decide (0 ≤ r) = true := by simp; omega
  have hI : ∀ (a e : Nat) (c : UInt8) (_ : 128 ≤ c.toNat) (W : World), Calls Tryz.prog 199 #[.string (signs9.extract a e), .int .u8 (c.toNat : Int)] W fun e w' => e = .returned (.int .i64 (-1)) ∧ w' = W := fun a e c hc W =>
    (sh_strings_IndexByte (signs9.extract a e) (c.toNat : Int) W).mono fun e' w' ⟨h1, h2⟩ => ⟨by rw [h1]; simp only [Int.toNat_natCast, Nat.toUInt8_eq, UInt8.ofNat_toNat]; rw [sign_none a e c hc], h2⟩
  clear hv he
  obtain ⟨c, hc⟩ : ∃ c, c = E[E.size - 1]'(by omega) := ⟨_, rfl⟩
  have hcl : 128 ≤ c.toNat := by rw [hc]; exact hlast _
  have hI2 := fun a e W => hI a e c hcl W
  have HI := Lib.hid hI2
  have hsz : E.size = 2 ∨ E.size = 3 ∨ E.size = 4 := by omega
  clear hlast hI hI2
  have hn1 : (((signs9[1]'(by decide)).toNat : Int) != (c.toNat : Int)) = true := by
    rw [show (signs9[1]'(by decide)) = 95 from rfl]
    simp
    omega
  have hn2 : (((signs9[2]'(by decide)).toNat : Int) != (c.toNat : Int)) = true := by
    rw [show (signs9[2]'(by decide)) = 43 from rfl]
    simp
    omega
  have hn3 : (((signs9[3]'(by decide)).toNat : Int) != (c.toNat : Int)) = true := by
    rw [show (signs9[3]'(by decide)) = 45 from rfl]
    simp
    omega
  have hS2 : ∀ W, (Instr.slice 9 (.string signs9) (some (.int .i64 2)) none none).run Tryz.prog W = .ok (.string (signs9.extract 2 9)) W := fun W => by kernel_rfl
  have hS3 : ∀ W, (Instr.slice 9 (.string signs9) (some (.int .i64 3)) none none).run Tryz.prog W = .ok (.string (signs9.extract 3 9)) W := fun W => by kernel_rfl
  have hS4 : ∀ W, (Instr.slice 9 (.string signs9) (some (.int .i64 4)) none none).run Tryz.prog W = .ok (.string (signs9.extract 4 9)) W := fun W => by kernel_rfl
  have hw2 : IntKind.i64.wrap 2 = 2 := by kernel_rfl
  have hw3 : IntKind.i64.wrap 3 = 3 := by kernel_rfl
  have hw4 : IntKind.i64.wrap 4 = 4 := by kernel_rfl
  rcases hsz with h2 | h2 | h2
  · have hc' : E[1]'(by omega) = c := by rw [hc]; simp [h2]
    clear hc
    go_enter Tryz.func198, Tryz.ntmps198
    go_wp2_with (first | (go_at_call 216; with_reducible refine (hV _).mono ?_; rintro e w1 ⟨rfl, rfl⟩) | fail)
    go_step3
    go_wp2_with fail
    refine wp_loop_rounds 1 ?_
    rw [rounds_succ]
    go_wp2_with fail
    go_step3
    go_wp2_with fail
    go_quiet (fail)
    have hk := (Kept.refl (fun _ => False) w1).drewN nq
    generalize w1.drewN nq = w2 at hk ⊢
    go_wp2_with fail
    go_quiet ((go_at_call 199; exact Calls.quiet_of_same (HI.out _ _ _)))
    go_wp2_with fail
    simp only [Exit.inBlock, Exit.then, Exit.noGoto_ret]
    go_ret
    exact ⟨rfl, hk.drewN _⟩
  · have hc' : E[2]'(by omega) = c := by rw [hc]; simp [h2]
    clear hc
    go_enter Tryz.func198, Tryz.ntmps198
    go_wp2_with (first | (go_at_call 216; with_reducible refine (hV _).mono ?_; rintro e w1 ⟨rfl, rfl⟩) | fail)
    go_step3
    go_wp2_with fail
    refine wp_loop_rounds 1 ?_
    rw [rounds_succ]
    go_wp2_with fail
    go_step3
    go_wp2_with fail
    go_quiet (fail)
    have hk := (Kept.refl (fun _ => False) w1).drewN nq
    generalize w1.drewN nq = w2 at hk ⊢
    go_wp2_with fail
    go_quiet ((go_at_call 199; exact Calls.quiet_of_same (HI.out _ _ _)))
    go_wp2_with fail
    simp only [Exit.inBlock, Exit.then, Exit.noGoto_ret]
    go_ret
    exact ⟨rfl, hk.drewN _⟩
  · have hc' : E[3]'(by omega) = c := by rw [hc]; simp [h2]
    clear hc
    go_enter Tryz.func198, Tryz.ntmps198
    go_wp2_with (first | (go_at_call 216; with_reducible refine (hV _).mono ?_; rintro e w1 ⟨rfl, rfl⟩) | fail)
    go_step3
    go_wp2_with fail
    refine wp_loop_rounds 1 ?_
    rw [rounds_succ]
    go_wp2_with fail
    go_step3
    go_wp2_with fail
    go_quiet (fail)
    have hk := (Kept.refl (fun _ => False) w1).drewN nq
    generalize w1.drewN nq = w2 at hk ⊢
    go_wp2_with fail
    go_quiet ((go_at_call 199; exact Calls.quiet_of_same (HI.out _ _ _)))
    go_wp2_with fail
    simp only [Exit.inBlock, Exit.then, Exit.noGoto_ret]
    go_ret
    exact ⟨rfl, hk.drewN _⟩

/-- Whether a rune may stand in a name. -/
theorem index_sign9 : ∀ b : UInt8, decide (0 ≤ Lib.indexByte signs9.data.toList b) = (decide (b.toNat = 46) || decide (b.toNat = 95) || decide (b.toNat = 43) || decide (b.toNat = 45) || decide (b.toNat = 47) || decide (b.toNat = 58) || decide (b.toNat = 64) || decide (b.toNat = 126) || decide (b.toNat = 94)) := by
  intro b
  have key : ((List.range 256).all fun n => decide (0 ≤ Lib.indexByte signs9.data.toList (UInt8.ofNat n)) == (decide (n = 46) || decide (n = 95) || decide (n = 43) || decide (n = 45) || decide (n = 47) || decide (n = 58) || decide (n = 64) || decide (n = 126) || decide (n = 94))) = true := by kernel_rfl
  have h := List.all_eq_true.1 key b.toNat (List.mem_range.2 (UInt8.toNat_lt b))
  have hb : UInt8.ofNat b.toNat = b := by simp
  rw [hb] at h
  simpa using h
theorem contains_low (b : UInt8) (hb : b.toNat < 128) (w : World) :
    Calls Tryz.prog 177 #[.string signs9, .int .i32 (b.toNat : Int)] w fun e w' => e = .returned (.bool (decide (0 ≤ Lib.indexByte signs9.data.toList b))) ∧ w' = w := by
  have hR := fun W => rune_low b hb W
  generalize Lib.indexByte signs9.data.toList b = ix at *
  go_enter Tryz.func177, Tryz.ntmps177
  go_wp2_with (go_at_call 198; with_reducible refine (hR _).mono ?_; rintro e w1 ⟨rfl, rfl⟩)
  go_ret
  exact ⟨rfl, rfl⟩
theorem contains_high (r : Int) (h0 : 128 ≤ r) (w : World) :
    Calls Tryz.prog 177 #[.string signs9, .int .i32 r] w fun e w' => e = .returned (.bool false) ∧ Kept (fun _ => False) w w' := by
  have hR : ∀ W, Calls Tryz.prog 198 #[.string signs9, .int .i32 r] W fun e w' => e = .returned (.int .i64 (-1)) ∧ Kept (fun _ => False) W w' := fun W => by
    by_cases he : r = 65533
    · subst he; exact rune_err W
    · cases hv : Lib.validRune r with
      | true => exact rune_high r h0 he hv W
      | false => exact rune_bad r h0 he hv W
  clear h0
  go_enter Tryz.func177, Tryz.ntmps177
  go_wp2_with (go_at_call 198; with_reducible refine (hR _).mono ?_; rintro e w1 ⟨rfl, hk⟩)
  go_ret
  exact ⟨rfl, hk⟩
set_option maxRecDepth 100000 in
theorem mayRune_low (b : UInt8) (hb : b.toNat < 128) (w : World) :
    Calls Tryz.prog 138 #[.int .i32 (b.toNat : Int)] w fun e w' => e = .returned (.bool (signD b)) ∧ w' = w := by
  by_cases c3 : (97 ≤ b.toNat ∧ b.toNat ≤ 122) ∨ (65 ≤ b.toNat ∧ b.toNat ≤ 90) ∨ (48 ≤ b.toNat ∧ b.toNat ≤ 57)
  · have fin := Lib.hid (show signD b = true by unfold signD okB; simp; omega)
    rcases c3 with ⟨a1, a2⟩ | ⟨a1, a2⟩ | ⟨a1, a2⟩
    all_goals
      go_enter Tryz.func138, Tryz.ntmps138
      go_wp2_with fail
      go_ret
      exact ⟨by rw [fin.out]; rfl, rfl⟩
  · have hI := fun W => contains_low b hb W
    have h1 := index_sign9 b
    have fin := Lib.hid (show signD b = decide (0 ≤ Lib.indexByte signs9.data.toList b) by
      rw [h1, Bool.eq_iff_iff]
      unfold signD okB
      simp
      omega)
    have hc : b.toNat < 48 ∨ (57 < b.toNat ∧ b.toNat < 65) ∨ (90 < b.toNat ∧ b.toNat < 97) ∨ 122 < b.toNat := by omega
    generalize Lib.indexByte signs9.data.toList b = ix at *
    clear h1 c3 hb
    rcases hc with hc | ⟨hc, hd⟩ | ⟨hc, hd⟩ | hc
    all_goals
      go_enter Tryz.func138, Tryz.ntmps138
      go_wp2_with (go_at_call 177; with_reducible refine (hI _).mono ?_; rintro e w1 ⟨rfl, rfl⟩)
      go_ret
      exact ⟨by rw [fin.out]; rfl, rfl⟩
set_option maxRecDepth 100000 in
theorem mayRune_high (r : Int) (h0 : 128 ≤ r) (w : World) :
    Calls Tryz.prog 138 #[.int .i32 r] w fun e w' => e = .returned (.bool false) ∧ Kept (fun _ => False) w w' := by
  have hI := fun W => contains_high r h0 W
  go_enter Tryz.func138, Tryz.ntmps138
  go_wp2_with (go_at_call 177; with_reducible refine (hI _).mono ?_; rintro e w1 ⟨rfl, hk⟩)
  go_ret
  exact ⟨rfl, hk⟩
end Go.Proofs.YtpdoeapjdifmbaaGreatDoor
