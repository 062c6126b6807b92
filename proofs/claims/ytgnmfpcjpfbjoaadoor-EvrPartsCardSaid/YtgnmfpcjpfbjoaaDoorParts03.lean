/-
  The walk over the law EvrParts. Conditions: as each theorem states.
-/
import Derived.Test.YtgnmfpcjpfbjoaaDoorTells03
namespace Go.Proofs.YtgnmfpcjpfbjoaaDoor
open Go.RowKit Ver Evr

set_option maxRecDepth 100000 in
set_option maxHeartbeats 2000000 in
theorem parts_largeA (n m : Int) (v r u s l : ByteArray) (w : World) (hW : (∀ W : World, Kept (fun _ => False) w W → Calls Tryd.prog 8 #[] W fun e w' => e = .returned (.bool true) ∧ Kept (fun _ => False) W w')) (hA : (∀ W : World, Calls Tryd.prog 15 #[.agg #[.int .i64 n, .string v, .string r]] W fun e w' => e = .returned (.bool true) ∧ Kept (fun _ => False) W w')) :
    Calls Tryd.prog 7 #[.agg #[.int .i64 n, .string v, .string r], .agg #[.int .i64 m, .string u, .string s], .string l] w fun e w' => e = .returned (.bool true) ∧ Kept (fun _ => False) w w' := by
  have hk0 : Kept (fun _ => False) w ((w.alloc (.cells #[.int .i64 n, .string v, .string r] 30)).alloc (.cells #[.int .i64 m, .string u, .string s] 30)) := ((Kept.refl _ _).alloc _).alloc _
  have HK := Lib.hid hk0
  have bA := (Box.made w 30 #[.int .i64 n, .string v, .string r]).after_alloc (.cells #[.int .i64 m, .string u, .string s] 30)
  have bB := Box.made (w.alloc (.cells #[.int .i64 n, .string v, .string r] 30)) 30 #[.int .i64 m, .string u, .string s]
  rw [World.size_alloc] at bB
  have HA := Lib.hid bA
  have HB := Lib.hid bB
  clear hk0 bA bB
  go_enter Tryd.func7, Tryd.ntmps7
  go_wp2_with (first
    | (go_at_call 8; (first | (with_reducible refine (hW _ HK.out).mono ?_)); rintro e w5 ⟨rfl, hk5⟩; have HA := Lib.hid ((hk5).box HA.out (fun h => h)); have HB := Lib.hid ((hk5).box HB.out (fun h => h)); have ax0 := HA.out.cell 0; have ax1 := HA.out.cell 1; have ax2 := HA.out.cell 2; have bx0 := HB.out.cell 0; have bx1 := HB.out.cell 1; have bx2 := HB.out.cell 2; have HK := Lib.hid (Kept.trans HK.out (hk5) (fun _ _ h => h)); clear hk5)
    | (go_at_call 15; (first | (with_reducible refine (hA _).mono ?_)); rintro e w5 ⟨rfl, hk5⟩; have HA := Lib.hid ((hk5).box HA.out (fun h => h)); have HB := Lib.hid ((hk5).box HB.out (fun h => h)); have ax0 := HA.out.cell 0; have ax1 := HA.out.cell 1; have ax2 := HA.out.cell 2; have bx0 := HB.out.cell 0; have bx1 := HB.out.cell 1; have bx2 := HB.out.cell 2; have HK := Lib.hid (Kept.trans HK.out (hk5) (fun _ _ h => h)); clear hk5)
    | fail)
  all_goals go_ret
  all_goals exact ⟨rfl, HK.out⟩
set_option maxRecDepth 100000 in
set_option maxHeartbeats 2000000 in
theorem parts_largeB (n m : Int) (v r u s l : ByteArray) (w : World) (hW : (∀ W : World, Kept (fun _ => False) w W → Calls Tryd.prog 8 #[] W fun e w' => e = .returned (.bool true) ∧ Kept (fun _ => False) W w')) (hA : (∀ W : World, Calls Tryd.prog 15 #[.agg #[.int .i64 n, .string v, .string r]] W fun e w' => e = .returned (.bool false) ∧ Kept (fun _ => False) W w')) (hB : (∀ W : World, Calls Tryd.prog 15 #[.agg #[.int .i64 m, .string u, .string s]] W fun e w' => e = .returned (.bool true) ∧ Kept (fun _ => False) W w')) :
    Calls Tryd.prog 7 #[.agg #[.int .i64 n, .string v, .string r], .agg #[.int .i64 m, .string u, .string s], .string l] w fun e w' => e = .returned (.bool true) ∧ Kept (fun _ => False) w w' := by
  have hk0 : Kept (fun _ => False) w ((w.alloc (.cells #[.int .i64 n, .string v, .string r] 30)).alloc (.cells #[.int .i64 m, .string u, .string s] 30)) := ((Kept.refl _ _).alloc _).alloc _
  have HK := Lib.hid hk0
  have bA := (Box.made w 30 #[.int .i64 n, .string v, .string r]).after_alloc (.cells #[.int .i64 m, .string u, .string s] 30)
  have bB := Box.made (w.alloc (.cells #[.int .i64 n, .string v, .string r] 30)) 30 #[.int .i64 m, .string u, .string s]
  rw [World.size_alloc] at bB
  have HA := Lib.hid bA
  have HB := Lib.hid bB
  clear hk0 bA bB
  go_enter Tryd.func7, Tryd.ntmps7
  go_wp2_with (first
    | (go_at_call 8; (first | (with_reducible refine (hW _ HK.out).mono ?_)); rintro e w5 ⟨rfl, hk5⟩; have HA := Lib.hid ((hk5).box HA.out (fun h => h)); have HB := Lib.hid ((hk5).box HB.out (fun h => h)); have ax0 := HA.out.cell 0; have ax1 := HA.out.cell 1; have ax2 := HA.out.cell 2; have bx0 := HB.out.cell 0; have bx1 := HB.out.cell 1; have bx2 := HB.out.cell 2; have HK := Lib.hid (Kept.trans HK.out (hk5) (fun _ _ h => h)); clear hk5)
    | (go_at_call 15; (first | (with_reducible refine (hA _).mono ?_) | (with_reducible refine (hB _).mono ?_)); rintro e w5 ⟨rfl, hk5⟩; have HA := Lib.hid ((hk5).box HA.out (fun h => h)); have HB := Lib.hid ((hk5).box HB.out (fun h => h)); have ax0 := HA.out.cell 0; have ax1 := HA.out.cell 1; have ax2 := HA.out.cell 2; have bx0 := HB.out.cell 0; have bx1 := HB.out.cell 1; have bx2 := HB.out.cell 2; have HK := Lib.hid (Kept.trans HK.out (hk5) (fun _ _ h => h)); clear hk5)
    | fail)
  all_goals go_ret
  all_goals exact ⟨rfl, HK.out⟩
set_option maxRecDepth 100000 in
set_option maxHeartbeats 2000000 in
theorem parts_largeL (n m : Int) (v r u s l : ByteArray) (w : World) (hW : (∀ W : World, Kept (fun _ => False) w W → Calls Tryd.prog 8 #[] W fun e w' => e = .returned (.bool true) ∧ Kept (fun _ => False) W w')) (hA : (∀ W : World, Calls Tryd.prog 15 #[.agg #[.int .i64 n, .string v, .string r]] W fun e w' => e = .returned (.bool false) ∧ Kept (fun _ => False) W w')) (hB : (∀ W : World, Calls Tryd.prog 15 #[.agg #[.int .i64 m, .string u, .string s]] W fun e w' => e = .returned (.bool false) ∧ Kept (fun _ => False) W w')) (n1 : (300 : Int) < (l.size : Int)) :
    Calls Tryd.prog 7 #[.agg #[.int .i64 n, .string v, .string r], .agg #[.int .i64 m, .string u, .string s], .string l] w fun e w' => e = .returned (.bool true) ∧ Kept (fun _ => False) w w' := by
  have hk0 : Kept (fun _ => False) w ((w.alloc (.cells #[.int .i64 n, .string v, .string r] 30)).alloc (.cells #[.int .i64 m, .string u, .string s] 30)) := ((Kept.refl _ _).alloc _).alloc _
  have HK := Lib.hid hk0
  have bA := (Box.made w 30 #[.int .i64 n, .string v, .string r]).after_alloc (.cells #[.int .i64 m, .string u, .string s] 30)
  have bB := Box.made (w.alloc (.cells #[.int .i64 n, .string v, .string r] 30)) 30 #[.int .i64 m, .string u, .string s]
  rw [World.size_alloc] at bB
  have HA := Lib.hid bA
  have HB := Lib.hid bB
  clear hk0 bA bB
  go_enter Tryd.func7, Tryd.ntmps7
  go_wp2_with (first
    | (go_at_call 8; (first | (with_reducible refine (hW _ HK.out).mono ?_)); rintro e w5 ⟨rfl, hk5⟩; have HA := Lib.hid ((hk5).box HA.out (fun h => h)); have HB := Lib.hid ((hk5).box HB.out (fun h => h)); have ax0 := HA.out.cell 0; have ax1 := HA.out.cell 1; have ax2 := HA.out.cell 2; have bx0 := HB.out.cell 0; have bx1 := HB.out.cell 1; have bx2 := HB.out.cell 2; have HK := Lib.hid (Kept.trans HK.out (hk5) (fun _ _ h => h)); clear hk5)
    | (go_at_call 15; (first | (with_reducible refine (hA _).mono ?_) | (with_reducible refine (hB _).mono ?_)); rintro e w5 ⟨rfl, hk5⟩; have HA := Lib.hid ((hk5).box HA.out (fun h => h)); have HB := Lib.hid ((hk5).box HB.out (fun h => h)); have ax0 := HA.out.cell 0; have ax1 := HA.out.cell 1; have ax2 := HA.out.cell 2; have bx0 := HB.out.cell 0; have bx1 := HB.out.cell 1; have bx2 := HB.out.cell 2; have HK := Lib.hid (Kept.trans HK.out (hk5) (fun _ _ h => h)); clear hk5)
    | fail)
  all_goals go_ret
  all_goals exact ⟨rfl, HK.out⟩
set_option maxRecDepth 100000 in
set_option maxHeartbeats 2000000 in
theorem parts_less (n m : Int) (v r u s l : ByteArray) (w : World) (hW : (∀ W : World, Kept (fun _ => False) w W → Calls Tryd.prog 8 #[] W fun e w' => e = .returned (.bool true) ∧ Kept (fun _ => False) W w')) (hA : (∀ W : World, Calls Tryd.prog 15 #[.agg #[.int .i64 n, .string v, .string r]] W fun e w' => e = .returned (.bool false) ∧ Kept (fun _ => False) W w')) (hB : (∀ W : World, Calls Tryd.prog 15 #[.agg #[.int .i64 m, .string u, .string s]] W fun e w' => e = .returned (.bool false) ∧ Kept (fun _ => False) W w')) (n1 : ¬ ((300 : Int) < (l.size : Int))) (cAB : (∀ W : World, Calls Tryd.prog 14 #[.agg #[.int .i64 n, .string v, .string r], .agg #[.int .i64 m, .string u, .string s]] W fun e w' => e = .returned (.int .i64 (-1)) ∧ Kept (fun _ => False) W w')) (h1 : n < m) :
    Calls Tryd.prog 7 #[.agg #[.int .i64 n, .string v, .string r], .agg #[.int .i64 m, .string u, .string s], .string l] w fun e w' => e = .returned (.bool true) ∧ Kept (fun _ => False) w w' := by
  have g1 : (n == m) = false := by simp; omega
  have g2 : (n != m) = true := by simp; omega
  have g3 : decide (m < n) = false := by simp; omega
  have hk0 : Kept (fun _ => False) w ((w.alloc (.cells #[.int .i64 n, .string v, .string r] 30)).alloc (.cells #[.int .i64 m, .string u, .string s] 30)) := ((Kept.refl _ _).alloc _).alloc _
  have HK := Lib.hid hk0
  have bA := (Box.made w 30 #[.int .i64 n, .string v, .string r]).after_alloc (.cells #[.int .i64 m, .string u, .string s] 30)
  have bB := Box.made (w.alloc (.cells #[.int .i64 n, .string v, .string r] 30)) 30 #[.int .i64 m, .string u, .string s]
  rw [World.size_alloc] at bB
  have HA := Lib.hid bA
  have HB := Lib.hid bB
  clear hk0 bA bB
  go_enter Tryd.func7, Tryd.ntmps7
  go_wp2_with (first
    | (go_at_call 8; (first | (with_reducible refine (hW _ HK.out).mono ?_)); rintro e w5 ⟨rfl, hk5⟩; have HA := Lib.hid ((hk5).box HA.out (fun h => h)); have HB := Lib.hid ((hk5).box HB.out (fun h => h)); have ax0 := HA.out.cell 0; have ax1 := HA.out.cell 1; have ax2 := HA.out.cell 2; have bx0 := HB.out.cell 0; have bx1 := HB.out.cell 1; have bx2 := HB.out.cell 2; have HK := Lib.hid (Kept.trans HK.out (hk5) (fun _ _ h => h)); clear hk5)
    | (go_at_call 15; (first | (with_reducible refine (hA _).mono ?_) | (with_reducible refine (hB _).mono ?_)); rintro e w5 ⟨rfl, hk5⟩; have HA := Lib.hid ((hk5).box HA.out (fun h => h)); have HB := Lib.hid ((hk5).box HB.out (fun h => h)); have ax0 := HA.out.cell 0; have ax1 := HA.out.cell 1; have ax2 := HA.out.cell 2; have bx0 := HB.out.cell 0; have bx1 := HB.out.cell 1; have bx2 := HB.out.cell 2; have HK := Lib.hid (Kept.trans HK.out (hk5) (fun _ _ h => h)); clear hk5)
    | (go_at_call 14; (first | (with_reducible refine (cAB _).mono ?_)); rintro e w5 ⟨rfl, hk5⟩; have HA := Lib.hid ((hk5).box HA.out (fun h => h)); have HB := Lib.hid ((hk5).box HB.out (fun h => h)); have ax0 := HA.out.cell 0; have ax1 := HA.out.cell 1; have ax2 := HA.out.cell 2; have bx0 := HB.out.cell 0; have bx1 := HB.out.cell 1; have bx2 := HB.out.cell 2; have HK := Lib.hid (Kept.trans HK.out (hk5) (fun _ _ h => h)); clear hk5)
    | fail)
  all_goals go_ret
  all_goals exact ⟨rfl, HK.out⟩
set_option maxRecDepth 100000 in
set_option maxHeartbeats 2000000 in
theorem parts_more (n m : Int) (v r u s l : ByteArray) (w : World) (hW : (∀ W : World, Kept (fun _ => False) w W → Calls Tryd.prog 8 #[] W fun e w' => e = .returned (.bool true) ∧ Kept (fun _ => False) W w')) (hA : (∀ W : World, Calls Tryd.prog 15 #[.agg #[.int .i64 n, .string v, .string r]] W fun e w' => e = .returned (.bool false) ∧ Kept (fun _ => False) W w')) (hB : (∀ W : World, Calls Tryd.prog 15 #[.agg #[.int .i64 m, .string u, .string s]] W fun e w' => e = .returned (.bool false) ∧ Kept (fun _ => False) W w')) (n1 : ¬ ((300 : Int) < (l.size : Int))) (cAB : (∀ W : World, Calls Tryd.prog 14 #[.agg #[.int .i64 n, .string v, .string r], .agg #[.int .i64 m, .string u, .string s]] W fun e w' => e = .returned (.int .i64 (1)) ∧ Kept (fun _ => False) W w')) (h1 : m < n) :
    Calls Tryd.prog 7 #[.agg #[.int .i64 n, .string v, .string r], .agg #[.int .i64 m, .string u, .string s], .string l] w fun e w' => e = .returned (.bool true) ∧ Kept (fun _ => False) w w' := by
  have g1 : (n == m) = false := by simp; omega
  have g2 : (n != m) = true := by simp; omega
  have g3 : decide (m < n) = true := by simp; omega
  have hk0 : Kept (fun _ => False) w ((w.alloc (.cells #[.int .i64 n, .string v, .string r] 30)).alloc (.cells #[.int .i64 m, .string u, .string s] 30)) := ((Kept.refl _ _).alloc _).alloc _
  have HK := Lib.hid hk0
  have bA := (Box.made w 30 #[.int .i64 n, .string v, .string r]).after_alloc (.cells #[.int .i64 m, .string u, .string s] 30)
  have bB := Box.made (w.alloc (.cells #[.int .i64 n, .string v, .string r] 30)) 30 #[.int .i64 m, .string u, .string s]
  rw [World.size_alloc] at bB
  have HA := Lib.hid bA
  have HB := Lib.hid bB
  clear hk0 bA bB
  go_enter Tryd.func7, Tryd.ntmps7
  go_wp2_with (first
    | (go_at_call 8; (first | (with_reducible refine (hW _ HK.out).mono ?_)); rintro e w5 ⟨rfl, hk5⟩; have HA := Lib.hid ((hk5).box HA.out (fun h => h)); have HB := Lib.hid ((hk5).box HB.out (fun h => h)); have ax0 := HA.out.cell 0; have ax1 := HA.out.cell 1; have ax2 := HA.out.cell 2; have bx0 := HB.out.cell 0; have bx1 := HB.out.cell 1; have bx2 := HB.out.cell 2; have HK := Lib.hid (Kept.trans HK.out (hk5) (fun _ _ h => h)); clear hk5)
    | (go_at_call 15; (first | (with_reducible refine (hA _).mono ?_) | (with_reducible refine (hB _).mono ?_)); rintro e w5 ⟨rfl, hk5⟩; have HA := Lib.hid ((hk5).box HA.out (fun h => h)); have HB := Lib.hid ((hk5).box HB.out (fun h => h)); have ax0 := HA.out.cell 0; have ax1 := HA.out.cell 1; have ax2 := HA.out.cell 2; have bx0 := HB.out.cell 0; have bx1 := HB.out.cell 1; have bx2 := HB.out.cell 2; have HK := Lib.hid (Kept.trans HK.out (hk5) (fun _ _ h => h)); clear hk5)
    | (go_at_call 14; (first | (with_reducible refine (cAB _).mono ?_)); rintro e w5 ⟨rfl, hk5⟩; have HA := Lib.hid ((hk5).box HA.out (fun h => h)); have HB := Lib.hid ((hk5).box HB.out (fun h => h)); have ax0 := HA.out.cell 0; have ax1 := HA.out.cell 1; have ax2 := HA.out.cell 2; have bx0 := HB.out.cell 0; have bx1 := HB.out.cell 1; have bx2 := HB.out.cell 2; have HK := Lib.hid (Kept.trans HK.out (hk5) (fun _ _ h => h)); clear hk5)
    | fail)
  all_goals go_ret
  all_goals exact ⟨rfl, HK.out⟩
set_option maxRecDepth 100000 in
set_option maxHeartbeats 2000000 in
theorem parts_vm (n : Int) (v r u s l : ByteArray) (w : World) (hW : (∀ W : World, Kept (fun _ => False) w W → Calls Tryd.prog 8 #[] W fun e w' => e = .returned (.bool true) ∧ Kept (fun _ => False) W w')) (hA : (∀ W : World, Calls Tryd.prog 15 #[.agg #[.int .i64 n, .string v, .string r]] W fun e w' => e = .returned (.bool false) ∧ Kept (fun _ => False) W w')) (hB : (∀ W : World, Calls Tryd.prog 15 #[.agg #[.int .i64 n, .string u, .string s]] W fun e w' => e = .returned (.bool false) ∧ Kept (fun _ => False) W w')) (n1 : ¬ ((300 : Int) < (l.size : Int))) (cAB : (∀ W : World, Calls Tryd.prog 14 #[.agg #[.int .i64 n, .string v, .string r], .agg #[.int .i64 n, .string u, .string s]] W fun e w' => e = .returned (.int .i64 (-1)) ∧ Kept (fun _ => False) W w')) (cV : (∀ W : World, Calls Tryd.prog 14 #[.agg #[.int .i64 0, .string v, .string ⟨#[]⟩], .agg #[.int .i64 0, .string u, .string ⟨#[]⟩]] W fun e w' => e = .returned (.int .i64 (-1)) ∧ Kept (fun _ => False) W w')) :
    Calls Tryd.prog 7 #[.agg #[.int .i64 n, .string v, .string r], .agg #[.int .i64 n, .string u, .string s], .string l] w fun e w' => e = .returned (.bool true) ∧ Kept (fun _ => False) w w' := by
  have hk0 : Kept (fun _ => False) w ((w.alloc (.cells #[.int .i64 n, .string v, .string r] 30)).alloc (.cells #[.int .i64 n, .string u, .string s] 30)) := ((Kept.refl _ _).alloc _).alloc _
  have HK := Lib.hid hk0
  have bA := (Box.made w 30 #[.int .i64 n, .string v, .string r]).after_alloc (.cells #[.int .i64 n, .string u, .string s] 30)
  have bB := Box.made (w.alloc (.cells #[.int .i64 n, .string v, .string r] 30)) 30 #[.int .i64 n, .string u, .string s]
  rw [World.size_alloc] at bB
  have HA := Lib.hid bA
  have HB := Lib.hid bB
  clear hk0 bA bB
  go_enter Tryd.func7, Tryd.ntmps7
  go_wp2_with (first
    | (go_at_call 8; (first | (with_reducible refine (hW _ HK.out).mono ?_)); rintro e w5 ⟨rfl, hk5⟩; have HA := Lib.hid ((hk5).box HA.out (fun h => h)); have HB := Lib.hid ((hk5).box HB.out (fun h => h)); have ax0 := HA.out.cell 0; have ax1 := HA.out.cell 1; have ax2 := HA.out.cell 2; have bx0 := HB.out.cell 0; have bx1 := HB.out.cell 1; have bx2 := HB.out.cell 2; have HK := Lib.hid (Kept.trans HK.out (hk5) (fun _ _ h => h)); clear hk5)
    | (go_at_call 15; (first | (with_reducible refine (hA _).mono ?_) | (with_reducible refine (hB _).mono ?_)); rintro e w5 ⟨rfl, hk5⟩; have HA := Lib.hid ((hk5).box HA.out (fun h => h)); have HB := Lib.hid ((hk5).box HB.out (fun h => h)); have ax0 := HA.out.cell 0; have ax1 := HA.out.cell 1; have ax2 := HA.out.cell 2; have bx0 := HB.out.cell 0; have bx1 := HB.out.cell 1; have bx2 := HB.out.cell 2; have HK := Lib.hid (Kept.trans HK.out (hk5) (fun _ _ h => h)); clear hk5)
    | (go_at_call 14; (first | (with_reducible refine (cAB _).mono ?_) | (with_reducible refine (cV _).mono ?_)); rintro e w5 ⟨rfl, hk5⟩; have HA := Lib.hid ((hk5).box HA.out (fun h => h)); have HB := Lib.hid ((hk5).box HB.out (fun h => h)); have ax0 := HA.out.cell 0; have ax1 := HA.out.cell 1; have ax2 := HA.out.cell 2; have bx0 := HB.out.cell 0; have bx1 := HB.out.cell 1; have bx2 := HB.out.cell 2; have HK := Lib.hid (Kept.trans HK.out (hk5) (fun _ _ h => h)); clear hk5)
    | fail)
  all_goals go_ret
  all_goals exact ⟨rfl, HK.out⟩
set_option maxRecDepth 100000 in
set_option maxHeartbeats 2000000 in
theorem parts_vp (n : Int) (v r u s l : ByteArray) (w : World) (hW : (∀ W : World, Kept (fun _ => False) w W → Calls Tryd.prog 8 #[] W fun e w' => e = .returned (.bool true) ∧ Kept (fun _ => False) W w')) (hA : (∀ W : World, Calls Tryd.prog 15 #[.agg #[.int .i64 n, .string v, .string r]] W fun e w' => e = .returned (.bool false) ∧ Kept (fun _ => False) W w')) (hB : (∀ W : World, Calls Tryd.prog 15 #[.agg #[.int .i64 n, .string u, .string s]] W fun e w' => e = .returned (.bool false) ∧ Kept (fun _ => False) W w')) (n1 : ¬ ((300 : Int) < (l.size : Int))) (cAB : (∀ W : World, Calls Tryd.prog 14 #[.agg #[.int .i64 n, .string v, .string r], .agg #[.int .i64 n, .string u, .string s]] W fun e w' => e = .returned (.int .i64 (1)) ∧ Kept (fun _ => False) W w')) (cV : (∀ W : World, Calls Tryd.prog 14 #[.agg #[.int .i64 0, .string v, .string ⟨#[]⟩], .agg #[.int .i64 0, .string u, .string ⟨#[]⟩]] W fun e w' => e = .returned (.int .i64 (1)) ∧ Kept (fun _ => False) W w')) :
    Calls Tryd.prog 7 #[.agg #[.int .i64 n, .string v, .string r], .agg #[.int .i64 n, .string u, .string s], .string l] w fun e w' => e = .returned (.bool true) ∧ Kept (fun _ => False) w w' := by
  have hk0 : Kept (fun _ => False) w ((w.alloc (.cells #[.int .i64 n, .string v, .string r] 30)).alloc (.cells #[.int .i64 n, .string u, .string s] 30)) := ((Kept.refl _ _).alloc _).alloc _
  have HK := Lib.hid hk0
  have bA := (Box.made w 30 #[.int .i64 n, .string v, .string r]).after_alloc (.cells #[.int .i64 n, .string u, .string s] 30)
  have bB := Box.made (w.alloc (.cells #[.int .i64 n, .string v, .string r] 30)) 30 #[.int .i64 n, .string u, .string s]
  rw [World.size_alloc] at bB
  have HA := Lib.hid bA
  have HB := Lib.hid bB
  clear hk0 bA bB
  go_enter Tryd.func7, Tryd.ntmps7
  go_wp2_with (first
    | (go_at_call 8; (first | (with_reducible refine (hW _ HK.out).mono ?_)); rintro e w5 ⟨rfl, hk5⟩; have HA := Lib.hid ((hk5).box HA.out (fun h => h)); have HB := Lib.hid ((hk5).box HB.out (fun h => h)); have ax0 := HA.out.cell 0; have ax1 := HA.out.cell 1; have ax2 := HA.out.cell 2; have bx0 := HB.out.cell 0; have bx1 := HB.out.cell 1; have bx2 := HB.out.cell 2; have HK := Lib.hid (Kept.trans HK.out (hk5) (fun _ _ h => h)); clear hk5)
    | (go_at_call 15; (first | (with_reducible refine (hA _).mono ?_) | (with_reducible refine (hB _).mono ?_)); rintro e w5 ⟨rfl, hk5⟩; have HA := Lib.hid ((hk5).box HA.out (fun h => h)); have HB := Lib.hid ((hk5).box HB.out (fun h => h)); have ax0 := HA.out.cell 0; have ax1 := HA.out.cell 1; have ax2 := HA.out.cell 2; have bx0 := HB.out.cell 0; have bx1 := HB.out.cell 1; have bx2 := HB.out.cell 2; have HK := Lib.hid (Kept.trans HK.out (hk5) (fun _ _ h => h)); clear hk5)
    | (go_at_call 14; (first | (with_reducible refine (cAB _).mono ?_) | (with_reducible refine (cV _).mono ?_)); rintro e w5 ⟨rfl, hk5⟩; have HA := Lib.hid ((hk5).box HA.out (fun h => h)); have HB := Lib.hid ((hk5).box HB.out (fun h => h)); have ax0 := HA.out.cell 0; have ax1 := HA.out.cell 1; have ax2 := HA.out.cell 2; have bx0 := HB.out.cell 0; have bx1 := HB.out.cell 1; have bx2 := HB.out.cell 2; have HK := Lib.hid (Kept.trans HK.out (hk5) (fun _ _ h => h)); clear hk5)
    | fail)
  all_goals go_ret
  all_goals exact ⟨rfl, HK.out⟩
end Go.Proofs.YtgnmfpcjpfbjoaaDoor
