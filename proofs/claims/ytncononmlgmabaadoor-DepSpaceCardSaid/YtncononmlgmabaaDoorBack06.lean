/-
  The walk over the law DepBack. Conditions: as each theorem states.
-/
import Derived.Test.YtncononmlgmabaaDoorFace06
namespace Go.Proofs.YtncononmlgmabaaDoor
open Go.RowKit Ver Evr Span Dep

set_option maxRecDepth 100000 in
set_option maxHeartbeats 2000000 in
theorem depback_long (nm : ByteArray) (o : Nat) (n : Int) (v r : ByteArray) (s : ByteArray) (w : World) (hAw : (∀ W, Kept (fun _ => False) w W → Calls Tryd.prog 8 #[] W fun e w' => e = .returned (.bool true) ∧ Kept (fun _ => False) W w')) (hLg : (∀ W, Kept (fun _ => False) w W → Calls Tryd.prog 21 #[.agg #[.string nm, .int .u8 (o : Int), .int .i64 n, .string v, .string r]] W fun e w' => e = .returned (.bool true) ∧ Kept (fun _ => False) W w')) : Calls Tryd.prog 5 #[.agg #[.string nm, .int .u8 (o : Int), .int .i64 n, .string v, .string r], .string s] w fun e w' => e = .returned (.bool true) ∧ Kept (fun _ => False) w w' := by
  have HA := Lib.hid (Box.made w 27 #[.string nm, .int .u8 (o : Int), .int .i64 n, .string v, .string r])
  have HK := Lib.hid ((Kept.refl (fun _ => False) w).alloc (.cells #[.string nm, .int .u8 (o : Int), .int .i64 n, .string v, .string r] 27))
  go_enter Tryd.func5, Tryd.ntmps5
  go_wp2_with (first
    | (go_at_call 21; (with_reducible refine (hLg _ HK.out).mono ?_); rintro e w5 ⟨rfl, hk5⟩; have HA := Lib.hid (hk5.box HA.out (fun h => h)); have HK := Lib.hid (Kept.trans HK.out hk5 (fun _ _ h => h)); have ax0 := HA.out.cell 0; have ax1 := HA.out.cell 1; have ax2 := HA.out.cell 2; have ax3 := HA.out.cell 3; have ax4 := HA.out.cell 4; clear hk5)
    | (go_at_call 8; (with_reducible refine (hAw _ HK.out).mono ?_); rintro e w6 ⟨rfl, hk6⟩; have HA := Lib.hid (hk6.box HA.out (fun h => h)); have HK := Lib.hid (Kept.trans HK.out hk6 (fun _ _ h => h)); have ax0 := HA.out.cell 0; have ax1 := HA.out.cell 1; have ax2 := HA.out.cell 2; have ax3 := HA.out.cell 3; have ax4 := HA.out.cell 4; clear hk6)
    | fail)
  go_ret
  exact ⟨rfl, HK.out⟩
set_option maxRecDepth 100000 in
set_option maxHeartbeats 2000000 in
theorem depback_big (nm : ByteArray) (o : Nat) (n : Int) (v r : ByteArray) (s : ByteArray) (w : World) (hAw : (∀ W, Kept (fun _ => False) w W → Calls Tryd.prog 8 #[] W fun e w' => e = .returned (.bool true) ∧ Kept (fun _ => False) W w')) (hLg : (∀ W, Kept (fun _ => False) w W → Calls Tryd.prog 21 #[.agg #[.string nm, .int .u8 (o : Int), .int .i64 n, .string v, .string r]] W fun e w' => e = .returned (.bool false) ∧ Kept (fun _ => False) W w')) (hs : (1000 : Int) < (s.size : Int)) : Calls Tryd.prog 5 #[.agg #[.string nm, .int .u8 (o : Int), .int .i64 n, .string v, .string r], .string s] w fun e w' => e = .returned (.bool true) ∧ Kept (fun _ => False) w w' := by
  have HA := Lib.hid (Box.made w 27 #[.string nm, .int .u8 (o : Int), .int .i64 n, .string v, .string r])
  have HK := Lib.hid ((Kept.refl (fun _ => False) w).alloc (.cells #[.string nm, .int .u8 (o : Int), .int .i64 n, .string v, .string r] 27))
  go_enter Tryd.func5, Tryd.ntmps5
  go_wp2_with (first
    | (go_at_call 21; (with_reducible refine (hLg _ HK.out).mono ?_); rintro e w5 ⟨rfl, hk5⟩; have HA := Lib.hid (hk5.box HA.out (fun h => h)); have HK := Lib.hid (Kept.trans HK.out hk5 (fun _ _ h => h)); have ax0 := HA.out.cell 0; have ax1 := HA.out.cell 1; have ax2 := HA.out.cell 2; have ax3 := HA.out.cell 3; have ax4 := HA.out.cell 4; clear hk5)
    | (go_at_call 8; (with_reducible refine (hAw _ HK.out).mono ?_); rintro e w6 ⟨rfl, hk6⟩; have HA := Lib.hid (hk6.box HA.out (fun h => h)); have HK := Lib.hid (Kept.trans HK.out hk6 (fun _ _ h => h)); have ax0 := HA.out.cell 0; have ax1 := HA.out.cell 1; have ax2 := HA.out.cell 2; have ax3 := HA.out.cell 3; have ax4 := HA.out.cell 4; clear hk6)
    | fail)
  go_ret
  exact ⟨rfl, HK.out⟩
set_option maxRecDepth 100000 in
set_option maxHeartbeats 2000000 in
theorem depback_non (nm : ByteArray) (o : Nat) (n : Int) (v r : ByteArray) (s : ByteArray) (w : World) (hAw : (∀ W, Kept (fun _ => False) w W → Calls Tryd.prog 8 #[] W fun e w' => e = .returned (.bool true) ∧ Kept (fun _ => False) W w')) (hLg : (∀ W, Kept (fun _ => False) w W → Calls Tryd.prog 21 #[.agg #[.string nm, .int .u8 (o : Int), .int .i64 n, .string v, .string r]] W fun e w' => e = .returned (.bool false) ∧ Kept (fun _ => False) W w')) (hs : ¬ (1000 : Int) < (s.size : Int)) (hS : (∀ W, Kept (fun _ => False) w W → Calls Tryd.prog 17 #[.agg #[.string nm, .int .u8 (o : Int), .int .i64 n, .string v, .string r]] W fun e w' => e = .returned (.tuple #[.string ⟨#[]⟩, .int .i64 4]) ∧ Kept (fun _ => False) W w')) (hWd : (∀ W, Kept (fun _ => False) w W → Calls Tryd.prog 18 #[.agg #[.string nm, .int .u8 (o : Int), .int .i64 n, .string v, .string r]] W fun e w' => e = .returned (.tuple #[.slice none 0 0, .int .i64 4]) ∧ Kept (fun _ => False) W w')) (hM : (∀ W, Kept (fun _ => False) w W → Calls Tryd.prog 19 #[.agg #[.string nm, .int .u8 (o : Int), .int .i64 n, .string v, .string r]] W fun e w' => e = .returned (.bool false) ∧ Kept (fun _ => False) W w')) (hP : (∀ W, Kept (fun _ => False) w W → Calls Tryd.prog 9 #[.string s] W fun e w' => e = .returned (.tuple #[.agg #[.string ⟨#[]⟩, .int .u8 0, .int .i64 0, .string ⟨#[]⟩, .string ⟨#[]⟩], .int .i64 4]) ∧ Kept (fun _ => False) W w')) : Calls Tryd.prog 5 #[.agg #[.string nm, .int .u8 (o : Int), .int .i64 n, .string v, .string r], .string s] w fun e w' => e = .returned (.bool true) ∧ Kept (fun _ => False) w w' := by
  have HA := Lib.hid (Box.made w 27 #[.string nm, .int .u8 (o : Int), .int .i64 n, .string v, .string r])
  have HK := Lib.hid ((Kept.refl (fun _ => False) w).alloc (.cells #[.string nm, .int .u8 (o : Int), .int .i64 n, .string v, .string r] 27))
  go_enter Tryd.func5, Tryd.ntmps5
  go_wp2_with (first
    | (go_at_call 21; (with_reducible refine (hLg _ HK.out).mono ?_); rintro e w5 ⟨rfl, hk5⟩; have HA := Lib.hid (hk5.box HA.out (fun h => h)); have HK := Lib.hid (Kept.trans HK.out hk5 (fun _ _ h => h)); have ax0 := HA.out.cell 0; have ax1 := HA.out.cell 1; have ax2 := HA.out.cell 2; have ax3 := HA.out.cell 3; have ax4 := HA.out.cell 4; clear hk5)
    | (go_at_call 8; (with_reducible refine (hAw _ HK.out).mono ?_); rintro e w6 ⟨rfl, hk6⟩; have HA := Lib.hid (hk6.box HA.out (fun h => h)); have HK := Lib.hid (Kept.trans HK.out hk6 (fun _ _ h => h)); have ax0 := HA.out.cell 0; have ax1 := HA.out.cell 1; have ax2 := HA.out.cell 2; have ax3 := HA.out.cell 3; have ax4 := HA.out.cell 4; clear hk6)
    | (go_at_call 17; (with_reducible refine (hS _ HK.out).mono ?_); rintro e w7 ⟨rfl, hk7⟩; have HA := Lib.hid (hk7.box HA.out (fun h => h)); have HK := Lib.hid (Kept.trans HK.out hk7 (fun _ _ h => h)); have ax0 := HA.out.cell 0; have ax1 := HA.out.cell 1; have ax2 := HA.out.cell 2; have ax3 := HA.out.cell 3; have ax4 := HA.out.cell 4; clear hk7)
    | (go_at_call 18; (with_reducible refine (hWd _ HK.out).mono ?_); rintro e w8 ⟨rfl, hk8⟩; have HA := Lib.hid (hk8.box HA.out (fun h => h)); have HK := Lib.hid (Kept.trans HK.out hk8 (fun _ _ h => h)); have ax0 := HA.out.cell 0; have ax1 := HA.out.cell 1; have ax2 := HA.out.cell 2; have ax3 := HA.out.cell 3; have ax4 := HA.out.cell 4; clear hk8)
    | (go_at_call 19; (with_reducible refine (hM _ HK.out).mono ?_); rintro e w9 ⟨rfl, hk9⟩; have HA := Lib.hid (hk9.box HA.out (fun h => h)); have HK := Lib.hid (Kept.trans HK.out hk9 (fun _ _ h => h)); have ax0 := HA.out.cell 0; have ax1 := HA.out.cell 1; have ax2 := HA.out.cell 2; have ax3 := HA.out.cell 3; have ax4 := HA.out.cell 4; clear hk9)
    | (go_at_call 9; (with_reducible refine (hP _ HK.out).mono ?_); rintro e w20 ⟨rfl, hk20⟩; have HA := Lib.hid (hk20.box HA.out (fun h => h)); have HK := Lib.hid (Kept.trans HK.out hk20 (fun _ _ h => h)); have ax0 := HA.out.cell 0; have ax1 := HA.out.cell 1; have ax2 := HA.out.cell 2; have ax3 := HA.out.cell 3; have ax4 := HA.out.cell 4; clear hk20; refine Hid.out ?_)
    | fail)
  refine Lib.hid ?_
  have HA := Lib.hid (HA.out.after_alloc (.cells #[.string ⟨#[]⟩, .int .u8 0, .int .i64 0, .string ⟨#[]⟩, .string ⟨#[]⟩] 27))
  have HC := Lib.hid (Box.made w20 27 #[.string ⟨#[]⟩, .int .u8 0, .int .i64 0, .string ⟨#[]⟩, .string ⟨#[]⟩])
  have HK := Lib.hid (HK.out.alloc (.cells #[.string ⟨#[]⟩, .int .u8 0, .int .i64 0, .string ⟨#[]⟩, .string ⟨#[]⟩] 27))
  have ax0 := HA.out.cell 0
  have ax1 := HA.out.cell 1
  have ax2 := HA.out.cell 2
  have ax3 := HA.out.cell 3
  have ax4 := HA.out.cell 4
  have cx0 := HC.out.cell 0
  have cx1 := HC.out.cell 1
  have cx2 := HC.out.cell 2
  have cx3 := HC.out.cell 3
  have cx4 := HC.out.cell 4
  go_wp2_with fail
  go_ret
  exact ⟨rfl, HK.out⟩
set_option maxRecDepth 100000 in
set_option maxHeartbeats 2000000 in
theorem depback_nos (nm : ByteArray) (o : Nat) (n : Int) (v r : ByteArray) (s : ByteArray) (nx : ByteArray) (k : Nat) (m : Int) (u x : ByteArray) (w : World) (hAw : (∀ W, Kept (fun _ => False) w W → Calls Tryd.prog 8 #[] W fun e w' => e = .returned (.bool true) ∧ Kept (fun _ => False) W w')) (hLg : (∀ W, Kept (fun _ => False) w W → Calls Tryd.prog 21 #[.agg #[.string nm, .int .u8 (o : Int), .int .i64 n, .string v, .string r]] W fun e w' => e = .returned (.bool false) ∧ Kept (fun _ => False) W w')) (hs : ¬ (1000 : Int) < (s.size : Int)) (hS : (∀ W, Kept (fun _ => False) w W → Calls Tryd.prog 17 #[.agg #[.string nm, .int .u8 (o : Int), .int .i64 n, .string v, .string r]] W fun e w' => e = .returned (.tuple #[.string ⟨#[]⟩, .int .i64 4]) ∧ Kept (fun _ => False) W w')) (hWd : (∀ W, Kept (fun _ => False) w W → Calls Tryd.prog 18 #[.agg #[.string nm, .int .u8 (o : Int), .int .i64 n, .string v, .string r]] W fun e w' => e = .returned (.tuple #[.slice none 0 0, .int .i64 4]) ∧ Kept (fun _ => False) W w')) (hM : (∀ W, Kept (fun _ => False) w W → Calls Tryd.prog 19 #[.agg #[.string nm, .int .u8 (o : Int), .int .i64 n, .string v, .string r]] W fun e w' => e = .returned (.bool false) ∧ Kept (fun _ => False) W w')) (hP : (∀ W, Kept (fun _ => False) w W → Calls Tryd.prog 9 #[.string s] W fun e w' => e = .returned (.tuple #[.agg #[.string nx, .int .u8 (k : Int), .int .i64 m, .string u, .string x], .int .i64 0]) ∧ Kept (fun _ => False) W w')) (hS2 : (∀ W, Kept (fun _ => False) w W → Calls Tryd.prog 17 #[.agg #[.string nx, .int .u8 (k : Int), .int .i64 m, .string u, .string x]] W fun e w' => e = .returned (.tuple #[.string s, .int .i64 0]) ∧ Kept (fun _ => False) W w')) (hM2 : (∀ W, Kept (fun _ => False) w W → Calls Tryd.prog 19 #[.agg #[.string nx, .int .u8 (k : Int), .int .i64 m, .string u, .string x]] W fun e w' => e = .returned (.bool true) ∧ Kept (fun _ => False) W w')) : Calls Tryd.prog 5 #[.agg #[.string nm, .int .u8 (o : Int), .int .i64 n, .string v, .string r], .string s] w fun e w' => e = .returned (.bool true) ∧ Kept (fun _ => False) w w' := by
  have HA := Lib.hid (Box.made w 27 #[.string nm, .int .u8 (o : Int), .int .i64 n, .string v, .string r])
  have HK := Lib.hid ((Kept.refl (fun _ => False) w).alloc (.cells #[.string nm, .int .u8 (o : Int), .int .i64 n, .string v, .string r] 27))
  go_enter Tryd.func5, Tryd.ntmps5
  go_wp2_with (first
    | (go_at_call 21; (with_reducible refine (hLg _ HK.out).mono ?_); rintro e w5 ⟨rfl, hk5⟩; have HA := Lib.hid (hk5.box HA.out (fun h => h)); have HK := Lib.hid (Kept.trans HK.out hk5 (fun _ _ h => h)); have ax0 := HA.out.cell 0; have ax1 := HA.out.cell 1; have ax2 := HA.out.cell 2; have ax3 := HA.out.cell 3; have ax4 := HA.out.cell 4; clear hk5)
    | (go_at_call 8; (with_reducible refine (hAw _ HK.out).mono ?_); rintro e w6 ⟨rfl, hk6⟩; have HA := Lib.hid (hk6.box HA.out (fun h => h)); have HK := Lib.hid (Kept.trans HK.out hk6 (fun _ _ h => h)); have ax0 := HA.out.cell 0; have ax1 := HA.out.cell 1; have ax2 := HA.out.cell 2; have ax3 := HA.out.cell 3; have ax4 := HA.out.cell 4; clear hk6)
    | (go_at_call 17; (with_reducible refine (hS _ HK.out).mono ?_); rintro e w7 ⟨rfl, hk7⟩; have HA := Lib.hid (hk7.box HA.out (fun h => h)); have HK := Lib.hid (Kept.trans HK.out hk7 (fun _ _ h => h)); have ax0 := HA.out.cell 0; have ax1 := HA.out.cell 1; have ax2 := HA.out.cell 2; have ax3 := HA.out.cell 3; have ax4 := HA.out.cell 4; clear hk7)
    | (go_at_call 18; (with_reducible refine (hWd _ HK.out).mono ?_); rintro e w8 ⟨rfl, hk8⟩; have HA := Lib.hid (hk8.box HA.out (fun h => h)); have HK := Lib.hid (Kept.trans HK.out hk8 (fun _ _ h => h)); have ax0 := HA.out.cell 0; have ax1 := HA.out.cell 1; have ax2 := HA.out.cell 2; have ax3 := HA.out.cell 3; have ax4 := HA.out.cell 4; clear hk8)
    | (go_at_call 19; (with_reducible refine (hM _ HK.out).mono ?_); rintro e w9 ⟨rfl, hk9⟩; have HA := Lib.hid (hk9.box HA.out (fun h => h)); have HK := Lib.hid (Kept.trans HK.out hk9 (fun _ _ h => h)); have ax0 := HA.out.cell 0; have ax1 := HA.out.cell 1; have ax2 := HA.out.cell 2; have ax3 := HA.out.cell 3; have ax4 := HA.out.cell 4; clear hk9)
    | (go_at_call 9; (with_reducible refine (hP _ HK.out).mono ?_); rintro e w20 ⟨rfl, hk20⟩; have HA := Lib.hid (hk20.box HA.out (fun h => h)); have HK := Lib.hid (Kept.trans HK.out hk20 (fun _ _ h => h)); have ax0 := HA.out.cell 0; have ax1 := HA.out.cell 1; have ax2 := HA.out.cell 2; have ax3 := HA.out.cell 3; have ax4 := HA.out.cell 4; clear hk20; refine Hid.out ?_)
    | fail)
  refine Lib.hid ?_
  have HA := Lib.hid (HA.out.after_alloc (.cells #[.string nx, .int .u8 (k : Int), .int .i64 m, .string u, .string x] 27))
  have HC := Lib.hid (Box.made w20 27 #[.string nx, .int .u8 (k : Int), .int .i64 m, .string u, .string x])
  have HK := Lib.hid (HK.out.alloc (.cells #[.string nx, .int .u8 (k : Int), .int .i64 m, .string u, .string x] 27))
  have ax0 := HA.out.cell 0
  have ax1 := HA.out.cell 1
  have ax2 := HA.out.cell 2
  have ax3 := HA.out.cell 3
  have ax4 := HA.out.cell 4
  have cx0 := HC.out.cell 0
  have cx1 := HC.out.cell 1
  have cx2 := HC.out.cell 2
  have cx3 := HC.out.cell 3
  have cx4 := HC.out.cell 4
  go_wp2_with (first
    | (go_at_call 17; (with_reducible refine (hS2 _ HK.out).mono ?_); rintro e w21 ⟨rfl, hk21⟩; have HA := Lib.hid (hk21.box HA.out (fun h => h)); have HC := Lib.hid (hk21.box HC.out (fun h => h)); have HK := Lib.hid (Kept.trans HK.out hk21 (fun _ _ h => h)); have ax0 := HA.out.cell 0; have ax1 := HA.out.cell 1; have ax2 := HA.out.cell 2; have ax3 := HA.out.cell 3; have ax4 := HA.out.cell 4; have cx0 := HC.out.cell 0; have cx1 := HC.out.cell 1; have cx2 := HC.out.cell 2; have cx3 := HC.out.cell 3; have cx4 := HC.out.cell 4; clear hk21)
    | (go_at_call 19; (with_reducible refine (hM2 _ HK.out).mono ?_); rintro e w22 ⟨rfl, hk22⟩; have HA := Lib.hid (hk22.box HA.out (fun h => h)); have HC := Lib.hid (hk22.box HC.out (fun h => h)); have HK := Lib.hid (Kept.trans HK.out hk22 (fun _ _ h => h)); have ax0 := HA.out.cell 0; have ax1 := HA.out.cell 1; have ax2 := HA.out.cell 2; have ax3 := HA.out.cell 3; have ax4 := HA.out.cell 4; have cx0 := HC.out.cell 0; have cx1 := HC.out.cell 1; have cx2 := HC.out.cell 2; have cx3 := HC.out.cell 3; have cx4 := HC.out.cell 4; clear hk22)
    | fail)
  go_ret
  exact ⟨rfl, HK.out⟩
set_option maxRecDepth 100000 in
set_option maxHeartbeats 2000000 in
theorem depback_yesn (nm : ByteArray) (o : Nat) (n : Int) (v r : ByteArray) (s : ByteArray) (t : ByteArray) (xs : List ByteArray) (w : World) (hAw : (∀ W, Kept (fun _ => False) w W → Calls Tryd.prog 8 #[] W fun e w' => e = .returned (.bool true) ∧ Kept (fun _ => False) W w')) (hLg : (∀ W, Kept (fun _ => False) w W → Calls Tryd.prog 21 #[.agg #[.string nm, .int .u8 (o : Int), .int .i64 n, .string v, .string r]] W fun e w' => e = .returned (.bool false) ∧ Kept (fun _ => False) W w')) (hs : ¬ (1000 : Int) < (s.size : Int)) (hS : (∀ W, Kept (fun _ => False) w W → Calls Tryd.prog 17 #[.agg #[.string nm, .int .u8 (o : Int), .int .i64 n, .string v, .string r]] W fun e w' => e = .returned (.tuple #[.string t, .int .i64 0]) ∧ Kept (fun _ => False) W w')) (hWd : ∀ W, Kept (fun _ => False) w W → Calls Tryd.prog 18 #[.agg #[.string nm, .int .u8 (o : Int), .int .i64 n, .string v, .string r]] W fun e w' => (∃ va, e = .returned (.tuple #[va, .int .i64 0]) ∧ StrS w' va xs) ∧ Kept (fun _ => False) W w') (hM : (∀ W, Kept (fun _ => False) w W → Calls Tryd.prog 19 #[.agg #[.string nm, .int .u8 (o : Int), .int .i64 n, .string v, .string r]] W fun e w' => e = .returned (.bool true) ∧ Kept (fun _ => False) W w')) (hPt : (∀ W, Kept (fun _ => False) w W → Calls Tryd.prog 9 #[.string t] W fun e w' => e = .returned (.tuple #[.agg #[.string nm, .int .u8 (o : Int), .int .i64 n, .string v, .string r], .int .i64 0]) ∧ Kept (fun _ => False) W w')) (hO : ∀ W va, Kept (fun _ => False) w W → StrS W va xs → Calls Tryd.prog 11 #[va] W fun e w' => e = .returned (.tuple #[.agg #[.string nm, .int .u8 (o : Int), .int .i64 n, .string v, .string r], .int .i64 0]) ∧ Kept (fun _ => False) W w') (hP : (∀ W, Kept (fun _ => False) w W → Calls Tryd.prog 9 #[.string s] W fun e w' => e = .returned (.tuple #[.agg #[.string ⟨#[]⟩, .int .u8 0, .int .i64 0, .string ⟨#[]⟩, .string ⟨#[]⟩], .int .i64 4]) ∧ Kept (fun _ => False) W w')) : Calls Tryd.prog 5 #[.agg #[.string nm, .int .u8 (o : Int), .int .i64 n, .string v, .string r], .string s] w fun e w' => e = .returned (.bool true) ∧ Kept (fun _ => False) w w' := by
  have HA := Lib.hid (Box.made w 27 #[.string nm, .int .u8 (o : Int), .int .i64 n, .string v, .string r])
  have HK := Lib.hid ((Kept.refl (fun _ => False) w).alloc (.cells #[.string nm, .int .u8 (o : Int), .int .i64 n, .string v, .string r] 27))
  go_enter Tryd.func5, Tryd.ntmps5
  go_wp2_with (first
    | (go_at_call 21; (with_reducible refine (hLg _ HK.out).mono ?_); rintro e w5 ⟨rfl, hk5⟩; have HA := Lib.hid (hk5.box HA.out (fun h => h)); have HK := Lib.hid (Kept.trans HK.out hk5 (fun _ _ h => h)); have ax0 := HA.out.cell 0; have ax1 := HA.out.cell 1; have ax2 := HA.out.cell 2; have ax3 := HA.out.cell 3; have ax4 := HA.out.cell 4; clear hk5)
    | (go_at_call 8; (with_reducible refine (hAw _ HK.out).mono ?_); rintro e w6 ⟨rfl, hk6⟩; have HA := Lib.hid (hk6.box HA.out (fun h => h)); have HK := Lib.hid (Kept.trans HK.out hk6 (fun _ _ h => h)); have ax0 := HA.out.cell 0; have ax1 := HA.out.cell 1; have ax2 := HA.out.cell 2; have ax3 := HA.out.cell 3; have ax4 := HA.out.cell 4; clear hk6)
    | (go_at_call 17; (with_reducible refine (hS _ HK.out).mono ?_); rintro e w7 ⟨rfl, hk7⟩; have HA := Lib.hid (hk7.box HA.out (fun h => h)); have HK := Lib.hid (Kept.trans HK.out hk7 (fun _ _ h => h)); have ax0 := HA.out.cell 0; have ax1 := HA.out.cell 1; have ax2 := HA.out.cell 2; have ax3 := HA.out.cell 3; have ax4 := HA.out.cell 4; clear hk7)
    | (go_at_call 18; (with_reducible refine (hWd _ HK.out).mono ?_); rintro e w8 ⟨⟨va, rfl, hs8⟩, hk8⟩; have HS := Lib.hid hs8; clear hs8; have HA := Lib.hid (hk8.box HA.out (fun h => h)); have HK := Lib.hid (Kept.trans HK.out hk8 (fun _ _ h => h)); have ax0 := HA.out.cell 0; have ax1 := HA.out.cell 1; have ax2 := HA.out.cell 2; have ax3 := HA.out.cell 3; have ax4 := HA.out.cell 4; clear hk8; refine Hid.out ?_)
    | fail)
  refine Lib.hid ?_
  go_wp2_with (first
    | (go_at_call 19; (with_reducible refine (hM _ HK.out).mono ?_); rintro e w9 ⟨rfl, hk9⟩; have HA := Lib.hid (hk9.box HA.out (fun h => h)); have HK := Lib.hid (Kept.trans HK.out hk9 (fun _ _ h => h)); have HS := Lib.hid (HS.out.kept hk9 (fun _ _ _ _ h => h)); have ax0 := HA.out.cell 0; have ax1 := HA.out.cell 1; have ax2 := HA.out.cell 2; have ax3 := HA.out.cell 3; have ax4 := HA.out.cell 4; clear hk9)
    | (go_at_call 9; (with_reducible refine (hPt _ HK.out).mono ?_); rintro e w10 ⟨rfl, hk10⟩; have HA := Lib.hid (hk10.box HA.out (fun h => h)); have HK := Lib.hid (Kept.trans HK.out hk10 (fun _ _ h => h)); have HS := Lib.hid (HS.out.kept hk10 (fun _ _ _ _ h => h)); have ax0 := HA.out.cell 0; have ax1 := HA.out.cell 1; have ax2 := HA.out.cell 2; have ax3 := HA.out.cell 3; have ax4 := HA.out.cell 4; clear hk10; refine Hid.out ?_)
    | fail)
  refine Lib.hid ?_
  have HA := Lib.hid (HA.out.after_alloc (.cells #[.string nm, .int .u8 (o : Int), .int .i64 n, .string v, .string r] 27))
  have HB := Lib.hid (Box.made w10 27 #[.string nm, .int .u8 (o : Int), .int .i64 n, .string v, .string r])
  have HS := Lib.hid (HS.out.kept ((Kept.refl (fun _ => False) w10).alloc (.cells #[.string nm, .int .u8 (o : Int), .int .i64 n, .string v, .string r] 27)) (fun _ _ _ _ h => h))
  have HK := Lib.hid (HK.out.alloc (.cells #[.string nm, .int .u8 (o : Int), .int .i64 n, .string v, .string r] 27))
  have ax0 := HA.out.cell 0
  have ax1 := HA.out.cell 1
  have ax2 := HA.out.cell 2
  have ax3 := HA.out.cell 3
  have ax4 := HA.out.cell 4
  have bx0 := HB.out.cell 0
  have bx1 := HB.out.cell 1
  have bx2 := HB.out.cell 2
  have bx3 := HB.out.cell 3
  have bx4 := HB.out.cell 4
  go_wp2_with (first
    | (go_at_call 11; (with_reducible refine (hO _ _ HK.out HS.out).mono ?_); rintro e w11 ⟨rfl, hk11⟩; have HA := Lib.hid (hk11.box HA.out (fun h => h)); have HB := Lib.hid (hk11.box HB.out (fun h => h)); have HK := Lib.hid (Kept.trans HK.out hk11 (fun _ _ h => h)); have ax0 := HA.out.cell 0; have ax1 := HA.out.cell 1; have ax2 := HA.out.cell 2; have ax3 := HA.out.cell 3; have ax4 := HA.out.cell 4; have bx0 := HB.out.cell 0; have bx1 := HB.out.cell 1; have bx2 := HB.out.cell 2; have bx3 := HB.out.cell 3; have bx4 := HB.out.cell 4; clear hk11; refine Hid.out ?_)
    | fail)
  refine Lib.hid ?_
  have HA := Lib.hid (HA.out.after_alloc (.cells #[.string nm, .int .u8 (o : Int), .int .i64 n, .string v, .string r] 27))
  have HB := Lib.hid (HB.out.after_alloc (.cells #[.string nm, .int .u8 (o : Int), .int .i64 n, .string v, .string r] 27))
  have HE := Lib.hid (Box.made w11 27 #[.string nm, .int .u8 (o : Int), .int .i64 n, .string v, .string r])
  have HK := Lib.hid (HK.out.alloc (.cells #[.string nm, .int .u8 (o : Int), .int .i64 n, .string v, .string r] 27))
  have ax0 := HA.out.cell 0
  have ax1 := HA.out.cell 1
  have ax2 := HA.out.cell 2
  have ax3 := HA.out.cell 3
  have ax4 := HA.out.cell 4
  have bx0 := HB.out.cell 0
  have bx1 := HB.out.cell 1
  have bx2 := HB.out.cell 2
  have bx3 := HB.out.cell 3
  have bx4 := HB.out.cell 4
  have ex0 := HE.out.cell 0
  have ex1 := HE.out.cell 1
  have ex2 := HE.out.cell 2
  have ex3 := HE.out.cell 3
  have ex4 := HE.out.cell 4
  go_wp2_with (first
    | (go_at_call 9; (with_reducible refine (hP _ HK.out).mono ?_); rintro e w20 ⟨rfl, hk20⟩; have HA := Lib.hid (hk20.box HA.out (fun h => h)); have HK := Lib.hid (Kept.trans HK.out hk20 (fun _ _ h => h)); have ax0 := HA.out.cell 0; have ax1 := HA.out.cell 1; have ax2 := HA.out.cell 2; have ax3 := HA.out.cell 3; have ax4 := HA.out.cell 4; clear hk20; refine Hid.out ?_)
    | fail)
  refine Lib.hid ?_
  have HA := Lib.hid (HA.out.after_alloc (.cells #[.string ⟨#[]⟩, .int .u8 0, .int .i64 0, .string ⟨#[]⟩, .string ⟨#[]⟩] 27))
  have HC := Lib.hid (Box.made w20 27 #[.string ⟨#[]⟩, .int .u8 0, .int .i64 0, .string ⟨#[]⟩, .string ⟨#[]⟩])
  have HK := Lib.hid (HK.out.alloc (.cells #[.string ⟨#[]⟩, .int .u8 0, .int .i64 0, .string ⟨#[]⟩, .string ⟨#[]⟩] 27))
  have ax0 := HA.out.cell 0
  have ax1 := HA.out.cell 1
  have ax2 := HA.out.cell 2
  have ax3 := HA.out.cell 3
  have ax4 := HA.out.cell 4
  have cx0 := HC.out.cell 0
  have cx1 := HC.out.cell 1
  have cx2 := HC.out.cell 2
  have cx3 := HC.out.cell 3
  have cx4 := HC.out.cell 4
  go_wp2_with fail
  go_ret
  exact ⟨rfl, HK.out⟩
set_option maxRecDepth 100000 in
set_option maxHeartbeats 2000000 in
theorem depback_yess (nm : ByteArray) (o : Nat) (n : Int) (v r : ByteArray) (s : ByteArray) (t : ByteArray) (xs : List ByteArray) (nx : ByteArray) (k : Nat) (m : Int) (u x : ByteArray) (w : World) (hAw : (∀ W, Kept (fun _ => False) w W → Calls Tryd.prog 8 #[] W fun e w' => e = .returned (.bool true) ∧ Kept (fun _ => False) W w')) (hLg : (∀ W, Kept (fun _ => False) w W → Calls Tryd.prog 21 #[.agg #[.string nm, .int .u8 (o : Int), .int .i64 n, .string v, .string r]] W fun e w' => e = .returned (.bool false) ∧ Kept (fun _ => False) W w')) (hs : ¬ (1000 : Int) < (s.size : Int)) (hS : (∀ W, Kept (fun _ => False) w W → Calls Tryd.prog 17 #[.agg #[.string nm, .int .u8 (o : Int), .int .i64 n, .string v, .string r]] W fun e w' => e = .returned (.tuple #[.string t, .int .i64 0]) ∧ Kept (fun _ => False) W w')) (hWd : ∀ W, Kept (fun _ => False) w W → Calls Tryd.prog 18 #[.agg #[.string nm, .int .u8 (o : Int), .int .i64 n, .string v, .string r]] W fun e w' => (∃ va, e = .returned (.tuple #[va, .int .i64 0]) ∧ StrS w' va xs) ∧ Kept (fun _ => False) W w') (hM : (∀ W, Kept (fun _ => False) w W → Calls Tryd.prog 19 #[.agg #[.string nm, .int .u8 (o : Int), .int .i64 n, .string v, .string r]] W fun e w' => e = .returned (.bool true) ∧ Kept (fun _ => False) W w')) (hPt : (∀ W, Kept (fun _ => False) w W → Calls Tryd.prog 9 #[.string t] W fun e w' => e = .returned (.tuple #[.agg #[.string nm, .int .u8 (o : Int), .int .i64 n, .string v, .string r], .int .i64 0]) ∧ Kept (fun _ => False) W w')) (hO : ∀ W va, Kept (fun _ => False) w W → StrS W va xs → Calls Tryd.prog 11 #[va] W fun e w' => e = .returned (.tuple #[.agg #[.string nm, .int .u8 (o : Int), .int .i64 n, .string v, .string r], .int .i64 0]) ∧ Kept (fun _ => False) W w') (hP : (∀ W, Kept (fun _ => False) w W → Calls Tryd.prog 9 #[.string s] W fun e w' => e = .returned (.tuple #[.agg #[.string nx, .int .u8 (k : Int), .int .i64 m, .string u, .string x], .int .i64 0]) ∧ Kept (fun _ => False) W w')) (hS2 : (∀ W, Kept (fun _ => False) w W → Calls Tryd.prog 17 #[.agg #[.string nx, .int .u8 (k : Int), .int .i64 m, .string u, .string x]] W fun e w' => e = .returned (.tuple #[.string s, .int .i64 0]) ∧ Kept (fun _ => False) W w')) (hM2 : (∀ W, Kept (fun _ => False) w W → Calls Tryd.prog 19 #[.agg #[.string nx, .int .u8 (k : Int), .int .i64 m, .string u, .string x]] W fun e w' => e = .returned (.bool true) ∧ Kept (fun _ => False) W w')) : Calls Tryd.prog 5 #[.agg #[.string nm, .int .u8 (o : Int), .int .i64 n, .string v, .string r], .string s] w fun e w' => e = .returned (.bool true) ∧ Kept (fun _ => False) w w' := by
  have HA := Lib.hid (Box.made w 27 #[.string nm, .int .u8 (o : Int), .int .i64 n, .string v, .string r])
  have HK := Lib.hid ((Kept.refl (fun _ => False) w).alloc (.cells #[.string nm, .int .u8 (o : Int), .int .i64 n, .string v, .string r] 27))
  go_enter Tryd.func5, Tryd.ntmps5
  go_wp2_with (first
    | (go_at_call 21; (with_reducible refine (hLg _ HK.out).mono ?_); rintro e w5 ⟨rfl, hk5⟩; have HA := Lib.hid (hk5.box HA.out (fun h => h)); have HK := Lib.hid (Kept.trans HK.out hk5 (fun _ _ h => h)); have ax0 := HA.out.cell 0; have ax1 := HA.out.cell 1; have ax2 := HA.out.cell 2; have ax3 := HA.out.cell 3; have ax4 := HA.out.cell 4; clear hk5)
    | (go_at_call 8; (with_reducible refine (hAw _ HK.out).mono ?_); rintro e w6 ⟨rfl, hk6⟩; have HA := Lib.hid (hk6.box HA.out (fun h => h)); have HK := Lib.hid (Kept.trans HK.out hk6 (fun _ _ h => h)); have ax0 := HA.out.cell 0; have ax1 := HA.out.cell 1; have ax2 := HA.out.cell 2; have ax3 := HA.out.cell 3; have ax4 := HA.out.cell 4; clear hk6)
    | (go_at_call 17; (with_reducible refine (hS _ HK.out).mono ?_); rintro e w7 ⟨rfl, hk7⟩; have HA := Lib.hid (hk7.box HA.out (fun h => h)); have HK := Lib.hid (Kept.trans HK.out hk7 (fun _ _ h => h)); have ax0 := HA.out.cell 0; have ax1 := HA.out.cell 1; have ax2 := HA.out.cell 2; have ax3 := HA.out.cell 3; have ax4 := HA.out.cell 4; clear hk7)
    | (go_at_call 18; (with_reducible refine (hWd _ HK.out).mono ?_); rintro e w8 ⟨⟨va, rfl, hs8⟩, hk8⟩; have HS := Lib.hid hs8; clear hs8; have HA := Lib.hid (hk8.box HA.out (fun h => h)); have HK := Lib.hid (Kept.trans HK.out hk8 (fun _ _ h => h)); have ax0 := HA.out.cell 0; have ax1 := HA.out.cell 1; have ax2 := HA.out.cell 2; have ax3 := HA.out.cell 3; have ax4 := HA.out.cell 4; clear hk8; refine Hid.out ?_)
    | fail)
  refine Lib.hid ?_
  go_wp2_with (first
    | (go_at_call 19; (with_reducible refine (hM _ HK.out).mono ?_); rintro e w9 ⟨rfl, hk9⟩; have HA := Lib.hid (hk9.box HA.out (fun h => h)); have HK := Lib.hid (Kept.trans HK.out hk9 (fun _ _ h => h)); have HS := Lib.hid (HS.out.kept hk9 (fun _ _ _ _ h => h)); have ax0 := HA.out.cell 0; have ax1 := HA.out.cell 1; have ax2 := HA.out.cell 2; have ax3 := HA.out.cell 3; have ax4 := HA.out.cell 4; clear hk9)
    | (go_at_call 9; (with_reducible refine (hPt _ HK.out).mono ?_); rintro e w10 ⟨rfl, hk10⟩; have HA := Lib.hid (hk10.box HA.out (fun h => h)); have HK := Lib.hid (Kept.trans HK.out hk10 (fun _ _ h => h)); have HS := Lib.hid (HS.out.kept hk10 (fun _ _ _ _ h => h)); have ax0 := HA.out.cell 0; have ax1 := HA.out.cell 1; have ax2 := HA.out.cell 2; have ax3 := HA.out.cell 3; have ax4 := HA.out.cell 4; clear hk10; refine Hid.out ?_)
    | fail)
  refine Lib.hid ?_
  have HA := Lib.hid (HA.out.after_alloc (.cells #[.string nm, .int .u8 (o : Int), .int .i64 n, .string v, .string r] 27))
  have HB := Lib.hid (Box.made w10 27 #[.string nm, .int .u8 (o : Int), .int .i64 n, .string v, .string r])
  have HS := Lib.hid (HS.out.kept ((Kept.refl (fun _ => False) w10).alloc (.cells #[.string nm, .int .u8 (o : Int), .int .i64 n, .string v, .string r] 27)) (fun _ _ _ _ h => h))
  have HK := Lib.hid (HK.out.alloc (.cells #[.string nm, .int .u8 (o : Int), .int .i64 n, .string v, .string r] 27))
  have ax0 := HA.out.cell 0
  have ax1 := HA.out.cell 1
  have ax2 := HA.out.cell 2
  have ax3 := HA.out.cell 3
  have ax4 := HA.out.cell 4
  have bx0 := HB.out.cell 0
  have bx1 := HB.out.cell 1
  have bx2 := HB.out.cell 2
  have bx3 := HB.out.cell 3
  have bx4 := HB.out.cell 4
  go_wp2_with (first
    | (go_at_call 11; (with_reducible refine (hO _ _ HK.out HS.out).mono ?_); rintro e w11 ⟨rfl, hk11⟩; have HA := Lib.hid (hk11.box HA.out (fun h => h)); have HB := Lib.hid (hk11.box HB.out (fun h => h)); have HK := Lib.hid (Kept.trans HK.out hk11 (fun _ _ h => h)); have ax0 := HA.out.cell 0; have ax1 := HA.out.cell 1; have ax2 := HA.out.cell 2; have ax3 := HA.out.cell 3; have ax4 := HA.out.cell 4; have bx0 := HB.out.cell 0; have bx1 := HB.out.cell 1; have bx2 := HB.out.cell 2; have bx3 := HB.out.cell 3; have bx4 := HB.out.cell 4; clear hk11; refine Hid.out ?_)
    | fail)
  refine Lib.hid ?_
  have HA := Lib.hid (HA.out.after_alloc (.cells #[.string nm, .int .u8 (o : Int), .int .i64 n, .string v, .string r] 27))
  have HB := Lib.hid (HB.out.after_alloc (.cells #[.string nm, .int .u8 (o : Int), .int .i64 n, .string v, .string r] 27))
  have HE := Lib.hid (Box.made w11 27 #[.string nm, .int .u8 (o : Int), .int .i64 n, .string v, .string r])
  have HK := Lib.hid (HK.out.alloc (.cells #[.string nm, .int .u8 (o : Int), .int .i64 n, .string v, .string r] 27))
  have ax0 := HA.out.cell 0
  have ax1 := HA.out.cell 1
  have ax2 := HA.out.cell 2
  have ax3 := HA.out.cell 3
  have ax4 := HA.out.cell 4
  have bx0 := HB.out.cell 0
  have bx1 := HB.out.cell 1
  have bx2 := HB.out.cell 2
  have bx3 := HB.out.cell 3
  have bx4 := HB.out.cell 4
  have ex0 := HE.out.cell 0
  have ex1 := HE.out.cell 1
  have ex2 := HE.out.cell 2
  have ex3 := HE.out.cell 3
  have ex4 := HE.out.cell 4
  go_wp2_with (first
    | (go_at_call 9; (with_reducible refine (hP _ HK.out).mono ?_); rintro e w20 ⟨rfl, hk20⟩; have HA := Lib.hid (hk20.box HA.out (fun h => h)); have HK := Lib.hid (Kept.trans HK.out hk20 (fun _ _ h => h)); have ax0 := HA.out.cell 0; have ax1 := HA.out.cell 1; have ax2 := HA.out.cell 2; have ax3 := HA.out.cell 3; have ax4 := HA.out.cell 4; clear hk20; refine Hid.out ?_)
    | fail)
  refine Lib.hid ?_
  have HA := Lib.hid (HA.out.after_alloc (.cells #[.string nx, .int .u8 (k : Int), .int .i64 m, .string u, .string x] 27))
  have HC := Lib.hid (Box.made w20 27 #[.string nx, .int .u8 (k : Int), .int .i64 m, .string u, .string x])
  have HK := Lib.hid (HK.out.alloc (.cells #[.string nx, .int .u8 (k : Int), .int .i64 m, .string u, .string x] 27))
  have ax0 := HA.out.cell 0
  have ax1 := HA.out.cell 1
  have ax2 := HA.out.cell 2
  have ax3 := HA.out.cell 3
  have ax4 := HA.out.cell 4
  have cx0 := HC.out.cell 0
  have cx1 := HC.out.cell 1
  have cx2 := HC.out.cell 2
  have cx3 := HC.out.cell 3
  have cx4 := HC.out.cell 4
  go_wp2_with (first
    | (go_at_call 17; (with_reducible refine (hS2 _ HK.out).mono ?_); rintro e w21 ⟨rfl, hk21⟩; have HA := Lib.hid (hk21.box HA.out (fun h => h)); have HC := Lib.hid (hk21.box HC.out (fun h => h)); have HK := Lib.hid (Kept.trans HK.out hk21 (fun _ _ h => h)); have ax0 := HA.out.cell 0; have ax1 := HA.out.cell 1; have ax2 := HA.out.cell 2; have ax3 := HA.out.cell 3; have ax4 := HA.out.cell 4; have cx0 := HC.out.cell 0; have cx1 := HC.out.cell 1; have cx2 := HC.out.cell 2; have cx3 := HC.out.cell 3; have cx4 := HC.out.cell 4; clear hk21)
    | (go_at_call 19; (with_reducible refine (hM2 _ HK.out).mono ?_); rintro e w22 ⟨rfl, hk22⟩; have HA := Lib.hid (hk22.box HA.out (fun h => h)); have HC := Lib.hid (hk22.box HC.out (fun h => h)); have HK := Lib.hid (Kept.trans HK.out hk22 (fun _ _ h => h)); have ax0 := HA.out.cell 0; have ax1 := HA.out.cell 1; have ax2 := HA.out.cell 2; have ax3 := HA.out.cell 3; have ax4 := HA.out.cell 4; have cx0 := HC.out.cell 0; have cx1 := HC.out.cell 1; have cx2 := HC.out.cell 2; have cx3 := HC.out.cell 3; have cx4 := HC.out.cell 4; clear hk22)
    | fail)
  go_ret
  exact ⟨rfl, HK.out⟩
theorem join_len : ∀ (ws : List (List UInt8)) (x : List UInt8), x ∈ ws → x.length ≤ (joinD ws).length
  | [], _, h => by cases h
  | [y], x, h => by
    have : x = y := by simpa using h
    rw [this]; exact Nat.le_refl _
  | y :: z :: l, x, h => by
    show x.length ≤ (y ++ 32 :: joinD (z :: l)).length
    rw [List.length_append, List.length_cons]
    rcases List.mem_cons.1 h with rfl | h
    · omega
    · have := join_len (z :: l) x h
      omega
theorem dep_value {s : ByteArray} {d : D} (h : parseD s.data.toList = some d) : ∃ (nx : ByteArray) (k : Nat) (m : Int) (u x : ByteArray), dD nx k m u x = d ∧ k < 256 ∧ nx.size ≤ 1000 ∧ u.size ≤ 1000 ∧ x.size ≤ 1000 := by
  obtain ⟨h1, _⟩ := show_parseD h
  obtain ⟨a, k, e, vv, rr⟩ := d
  refine ⟨⟨a.toArray⟩, k, e, ⟨vv.toArray⟩, ⟨rr.toArray⟩, rfl, ?_, ?_⟩
  · unfold mayD mayO at h1
    simp at h1
    omega
  · have ha : a.length ≤ 1000 := by
      have : nameD a = true := by unfold mayD at h1; simp only [Bool.and_eq_true] at h1; exact h1.1.1
      have := (name_parts this).2.1
      omega
    by_cases h0 : k = 0
    · subst h0
      rw [may_any, Bool.and_eq_true] at h1
      have := noE_iff.1 h1.2
      injection this with e1 e2 e3
      subst e2
      subst e3
      exact ⟨by show a.toArray.size ≤ 1000; simpa using ha, by decide, by decide⟩
    · rw [may_op h0] at h1
      simp only [Bool.and_eq_true] at h1
      obtain ⟨_, _, h3, h4⟩ := may_parts h1.2.2
      have hv := (word_ok h3).2.2
      refine ⟨by show a.toArray.size ≤ 1000; simpa using ha, ?_, ?_⟩
      · have : vv.length ≤ 64 := hv
        show vv.toArray.size ≤ 1000
        simp
        omega
      · have : rr.length ≤ 64 := by
          rcases h4 with h4 | h4
          · rw [show rr = [] from h4]; simp
          · exact (word_ok h4).2.2
        show rr.toArray.size ≤ 1000
        simp
        omega
theorem depback_walk {w0 : World} (hA : AllW w0) (nm : ByteArray) (o : Nat) (n : Int) (v r : ByteArray) (ho : o < 256) (s : ByteArray) (w : World) (hw : Kept (fun _ => False) w0 w) : Calls Tryd.prog 5 #[.agg #[.string nm, .int .u8 (o : Int), .int .i64 n, .string v, .string r], .string s] w fun e w' => e = .returned (.bool true) ∧ Kept (fun _ => False) w w' := by
  have tr := fun W (hk : Kept (fun _ => False) w W) => hw.trans hk (fun _ _ h => h)
  have hAw := fun W hk => awake6_walk hA W (tr W hk)
  by_cases hl : small nm v r
  · have hLg := fun W (_ : Kept (fun _ => False) w W) => long6_no (o := o) (n := n) hl W
    obtain ⟨l1, l2, l3⟩ := hl
    by_cases hs : 1000 < s.size
    · exact depback_big nm o n v r s w hAw hLg (by omega)
    · have hs' : ¬ (1000 : Int) < (s.size : Int) := by omega
      have hS := fun W hk => showp_walk hA.lib hA.no nm o ho n v r (by omega) (by omega) (by omega) W (tr W hk)
      have hM := fun W hk => may6p_walk nm o ho n v r W (hA.no.kept (tr W hk))
      have hP := fun W hk => parsep_walk hA.lib hA.no s (by omega) W (tr W hk)
      cases hm : mayD (dD nm o n v r) with
      | false =>
        have hWd := fun W hk => wordsp_no hA.lib hA.no nm o ho n v r (by omega) (by omega) (by omega) W (tr W hk) hm
        rw [hm] at hM
        rw [show showRD nm o n v r = .tuple #[.string ⟨#[]⟩, .int .i64 4] by unfold showRD; rw [hm]; rfl] at hS
        cases hp : parseD s.data.toList with
        | none =>
          rw [hp] at hP
          exact depback_non nm o n v r s w hAw hLg hs' hS hWd hM hP
        | some d =>
          obtain ⟨nx, k, m, u, x, rfl, hk, q1, q2, q3⟩ := dep_value hp
          obtain ⟨g1, g2⟩ := show_parseD hp
          rw [hp, of_back] at hP
          have hS2 := fun W hk2 => showp_walk hA.lib hA.no nx k hk m u x (by omega) (by omega) (by omega) W (tr W hk2)
          have hM2 := fun W hk2 => may6p_walk nx k hk m u x W (hA.no.kept (tr W hk2))
          rw [g1] at hM2
          rw [show showRD nx k m u x = .tuple #[.string s, .int .i64 0] by unfold showRD; rw [if_pos g1, g2, ← bytes_of]] at hS2
          exact depback_nos nm o n v r s nx k m u x w hAw hLg hs' hS hWd hM hP hS2 hM2
      | true =>
        have hWd : ∀ W, Kept (fun _ => False) w W → Calls Tryd.prog 18 #[.agg #[.string nm, .int .u8 (o : Int), .int .i64 n, .string v, .string r]] W fun e w' => (∃ va, e = .returned (.tuple #[va, .int .i64 0]) ∧ StrS w' va (wordsB nm o n v r)) ∧ Kept (fun _ => False) W w' := fun W hk => (wordsp_yes hA.lib hA.no nm o ho n v r (by omega) (by omega) (by omega) W (tr W hk) hm).mono fun e w' ⟨⟨va, h1, h2⟩, h3⟩ => ⟨⟨va, h1, own_strs h2⟩, h3⟩
        rw [hm] at hM
        obtain ⟨t, ht⟩ : ∃ t : ByteArray, t = ⟨(showD (dD nm o n v r)).toArray⟩ := ⟨_, rfl⟩
        have htl : t.data.toList = showD (dD nm o n v r) := by rw [ht]
        have hts : t.size ≤ 1000 := by
          have : t.data.toList.length = t.size := rfl
          rw [← this, htl]; exact show_len hm
        rw [show showRD nm o n v r = .tuple #[.string t, .int .i64 0] by unfold showRD; rw [if_pos hm, ht]] at hS
        have hPt := fun W hk => parsep_walk hA.lib hA.no t (by omega) W (tr W hk)
        rw [htl, parse_showD hm, of_back] at hPt
        have hxs : ∀ y ∈ wordsB nm o n v r, y.size ≤ 1000000 := fun y hy => by
          have hmem : y.data.toList ∈ wordsD (dD nm o n v r) := by rw [← wordsB_texts]; exact List.mem_map_of_mem hy
          have hle := show_len hm
          have hj := join_len _ _ hmem
          have : y.data.toList.length = y.size := rfl
          have e : showD (dD nm o n v r) = joinD (wordsD (dD nm o n v r)) := rfl
          rw [e] at hle
          omega
        have hO := fun W va (hk : Kept (fun _ => False) w W) (h : StrS W va (wordsB nm o n v r)) => of_walk hA.lib hA.no va _ W (tr W hk) h hxs
        rw [wordsB_texts, of_words hm, of_back] at hO
        cases hp : parseD s.data.toList with
        | none =>
          rw [hp] at hP
          exact depback_yesn nm o n v r s t _ w hAw hLg hs' hS hWd hM hPt hO hP
        | some d =>
          obtain ⟨nx, k, m, u, x, rfl, hk, q1, q2, q3⟩ := dep_value hp
          obtain ⟨g1, g2⟩ := show_parseD hp
          rw [hp, of_back] at hP
          have hS2 := fun W hk2 => showp_walk hA.lib hA.no nx k hk m u x (by omega) (by omega) (by omega) W (tr W hk2)
          have hM2 := fun W hk2 => may6p_walk nx k hk m u x W (hA.no.kept (tr W hk2))
          rw [g1] at hM2
          rw [show showRD nx k m u x = .tuple #[.string s, .int .i64 0] by unfold showRD; rw [if_pos g1, g2, ← bytes_of]] at hS2
          exact depback_yess nm o n v r s t _ nx k m u x w hAw hLg hs' hS hWd hM hPt hO hP hS2 hM2
  · exact depback_long nm o n v r s w hAw (fun W _ => long6_yes hl W)
end Go.Proofs.YtncononmlgmabaaDoor
