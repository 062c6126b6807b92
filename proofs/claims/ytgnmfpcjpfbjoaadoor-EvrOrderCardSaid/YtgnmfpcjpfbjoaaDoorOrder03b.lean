/-
  The walk over the law EvrOrder, where a Rel is empty. Conditions: as each theorem states.
-/
import Derived.Test.YtgnmfpcjpfbjoaaDoorTells03
namespace Go.Proofs.YtgnmfpcjpfbjoaaDoor
open Go.RowKit Ver Evr

set_option maxRecDepth 100000 in
set_option maxHeartbeats 2000000 in
theorem order_mA (n m k : Int) (v u s q p : ByteArray) (w : World) (y : Int) (hW : (∀ W : World, Kept (fun _ => False) w W → Calls Tryd.prog 8 #[] W fun e w' => e = .returned (.bool true) ∧ Kept (fun _ => False) W w')) (hA : (∀ W : World, Calls Tryd.prog 15 #[.agg #[.int .i64 n, .string v, .string ⟨#[]⟩]] W fun e w' => e = .returned (.bool false) ∧ Kept (fun _ => False) W w')) (hB : (∀ W : World, Calls Tryd.prog 15 #[.agg #[.int .i64 m, .string u, .string s]] W fun e w' => e = .returned (.bool false) ∧ Kept (fun _ => False) W w')) (hC : (∀ W : World, Calls Tryd.prog 15 #[.agg #[.int .i64 k, .string q, .string p]] W fun e w' => e = .returned (.bool false) ∧ Kept (fun _ => False) W w')) (cAB : (∀ W : World, Calls Tryd.prog 14 #[.agg #[.int .i64 n, .string v, .string ⟨#[]⟩], .agg #[.int .i64 m, .string u, .string s]] W fun e w' => e = .returned (.int .i64 (-1)) ∧ Kept (fun _ => False) W w')) (cBC : (∀ W : World, Calls Tryd.prog 14 #[.agg #[.int .i64 m, .string u, .string s], .agg #[.int .i64 k, .string q, .string p]] W fun e w' => e = .returned (.int .i64 (y)) ∧ Kept (fun _ => False) W w')) (cBA : (∀ W : World, Calls Tryd.prog 14 #[.agg #[.int .i64 m, .string u, .string s], .agg #[.int .i64 n, .string v, .string ⟨#[]⟩]] W fun e w' => e = .returned (.int .i64 (1)) ∧ Kept (fun _ => False) W w')) (cAA : (∀ W : World, Calls Tryd.prog 14 #[.agg #[.int .i64 n, .string v, .string ⟨#[]⟩], .agg #[.int .i64 n, .string v, .string ⟨#[]⟩]] W fun e w' => e = .returned (.int .i64 (0)) ∧ Kept (fun _ => False) W w')) :
    Calls Tryd.prog 6 #[.agg #[.int .i64 n, .string v, .string ⟨#[]⟩], .agg #[.int .i64 m, .string u, .string s], .agg #[.int .i64 k, .string q, .string p]] w fun e w' => e = .returned (.bool true) ∧ Kept (fun _ => False) w w' := by
  have hk0 : Kept (fun _ => False) w (((w.alloc (.cells #[.int .i64 n, .string v, .string ⟨#[]⟩] 30)).alloc (.cells #[.int .i64 m, .string u, .string s] 30)).alloc (.cells #[.int .i64 k, .string q, .string p] 30)) := (((Kept.refl _ _).alloc _).alloc _).alloc _
  have HK := Lib.hid hk0
  have bA := ((Box.made w 30 #[.int .i64 n, .string v, .string ⟨#[]⟩]).after_alloc (.cells #[.int .i64 m, .string u, .string s] 30)).after_alloc (.cells #[.int .i64 k, .string q, .string p] 30)
  have bB := (Box.made (w.alloc (.cells #[.int .i64 n, .string v, .string ⟨#[]⟩] 30)) 30 #[.int .i64 m, .string u, .string s]).after_alloc (.cells #[.int .i64 k, .string q, .string p] 30)
  have bC := Box.made ((w.alloc (.cells #[.int .i64 n, .string v, .string ⟨#[]⟩] 30)).alloc (.cells #[.int .i64 m, .string u, .string s] 30)) 30 #[.int .i64 k, .string q, .string p]
  rw [World.size_alloc] at bB
  rw [World.size_alloc, World.size_alloc] at bC
  have HA := Lib.hid bA
  have HB := Lib.hid bB
  have HC := Lib.hid bC
  clear hk0 bA bB bC
  go_enter Tryd.func6, Tryd.ntmps6
  go_wp2_with (first
    | (go_at_call 8; (first | (with_reducible refine (hW _ HK.out).mono ?_)); rintro e w5 ⟨rfl, hk5⟩; have HA := Lib.hid ((hk5).box HA.out (fun h => h)); have HB := Lib.hid ((hk5).box HB.out (fun h => h)); have HC := Lib.hid ((hk5).box HC.out (fun h => h)); have ax0 := HA.out.cell 0; have ax1 := HA.out.cell 1; have ax2 := HA.out.cell 2; have bx0 := HB.out.cell 0; have bx1 := HB.out.cell 1; have bx2 := HB.out.cell 2; have cx0 := HC.out.cell 0; have cx1 := HC.out.cell 1; have cx2 := HC.out.cell 2; have HK := Lib.hid (Kept.trans HK.out (hk5) (fun _ _ h => h)); clear hk5)
    | (go_at_call 15; (first | (with_reducible refine (hA _).mono ?_) | (with_reducible refine (hB _).mono ?_) | (with_reducible refine (hC _).mono ?_)); rintro e w5 ⟨rfl, hk5⟩; have HA := Lib.hid ((hk5).box HA.out (fun h => h)); have HB := Lib.hid ((hk5).box HB.out (fun h => h)); have HC := Lib.hid ((hk5).box HC.out (fun h => h)); have ax0 := HA.out.cell 0; have ax1 := HA.out.cell 1; have ax2 := HA.out.cell 2; have bx0 := HB.out.cell 0; have bx1 := HB.out.cell 1; have bx2 := HB.out.cell 2; have cx0 := HC.out.cell 0; have cx1 := HC.out.cell 1; have cx2 := HC.out.cell 2; have HK := Lib.hid (Kept.trans HK.out (hk5) (fun _ _ h => h)); clear hk5)
    | fail)
  obtain ⟨T, F, t0, ht0, hFk, hFs⟩ := class_of w5
  have fA := fun t => (hFk t).box HA.out (fun h => h)
  have qA0 : ∀ t, (F t).cell? ⟨w.heap.size, 0, none⟩ = some (.int .i64 n) := fun t => (fA t).cell 0
  have qA1 : ∀ t, (F t).cell? ⟨w.heap.size, 1, none⟩ = some (.string v) := fun t => (fA t).cell 1
  have qA2 : ∀ t, (F t).cell? ⟨w.heap.size, 2, none⟩ = some (.string ⟨#[]⟩) := fun t => (fA t).cell 2
  have fB := fun t => (hFk t).box HB.out (fun h => h)
  have qB0 : ∀ t, (F t).cell? ⟨w.heap.size + 1, 0, none⟩ = some (.int .i64 m) := fun t => (fB t).cell 0
  have qB1 : ∀ t, (F t).cell? ⟨w.heap.size + 1, 1, none⟩ = some (.string u) := fun t => (fB t).cell 1
  have qB2 : ∀ t, (F t).cell? ⟨w.heap.size + 1, 2, none⟩ = some (.string s) := fun t => (fB t).cell 2
  have fC := fun t => (hFk t).box HC.out (fun h => h)
  have qC0 : ∀ t, (F t).cell? ⟨w.heap.size + 1 + 1, 0, none⟩ = some (.int .i64 k) := fun t => (fC t).cell 0
  have qC1 : ∀ t, (F t).cell? ⟨w.heap.size + 1 + 1, 1, none⟩ = some (.string q) := fun t => (fC t).cell 1
  have qC2 : ∀ t, (F t).cell? ⟨w.heap.size + 1 + 1, 2, none⟩ = some (.string p) := fun t => (fC t).cell 2
  have HFK := Lib.hid hFk
  have HFS := Lib.hid hFs
  clear hFk hFs fA fB fC
  have hne : Nonempty T := ⟨t0⟩
  refine wp_region_class F t0 ht0 (by kernel_rfl) (by kernel_rfl) ?_
  repeat (go_big_quiet_step (first | (go_at_call 14; first | with_reducible exact class_call HFS.out (cAB _) | with_reducible exact class_call HFS.out (cBC _))))
  refine wpQuiet_nil ?_
  rintro _ ⟨tz, rfl⟩
  have HA := Lib.hid ((HFK.out tz).box HA.out (fun h => h))
  have HB := Lib.hid ((HFK.out tz).box HB.out (fun h => h))
  have HC := Lib.hid ((HFK.out tz).box HC.out (fun h => h))
  have HK := Lib.hid (Kept.trans HK.out (HFK.out tz) (fun _ _ h => h))
  go_wp2_with fail
  go_wp2_with (first
    | (go_at_call 14; (first | (with_reducible refine (cBA _).mono ?_) | (with_reducible refine (cAA _).mono ?_)); rintro e w5 ⟨rfl, hk5⟩; have HA := Lib.hid ((hk5).box HA.out (fun h => h)); have HB := Lib.hid ((hk5).box HB.out (fun h => h)); have HC := Lib.hid ((hk5).box HC.out (fun h => h)); have ax0 := HA.out.cell 0; have ax1 := HA.out.cell 1; have ax2 := HA.out.cell 2; have bx0 := HB.out.cell 0; have bx1 := HB.out.cell 1; have bx2 := HB.out.cell 2; have cx0 := HC.out.cell 0; have cx1 := HC.out.cell 1; have cx2 := HC.out.cell 2; have HK := Lib.hid (Kept.trans HK.out (hk5) (fun _ _ h => h)); clear hk5)
    | fail)
  all_goals go_ret
  all_goals exact ⟨rfl, HK.out⟩
set_option maxRecDepth 100000 in
set_option maxHeartbeats 2000000 in
theorem order_oA (n m k : Int) (v u s q p : ByteArray) (w : World) (y : Int) (hW : (∀ W : World, Kept (fun _ => False) w W → Calls Tryd.prog 8 #[] W fun e w' => e = .returned (.bool true) ∧ Kept (fun _ => False) W w')) (hA : (∀ W : World, Calls Tryd.prog 15 #[.agg #[.int .i64 n, .string v, .string ⟨#[]⟩]] W fun e w' => e = .returned (.bool false) ∧ Kept (fun _ => False) W w')) (hB : (∀ W : World, Calls Tryd.prog 15 #[.agg #[.int .i64 m, .string u, .string s]] W fun e w' => e = .returned (.bool false) ∧ Kept (fun _ => False) W w')) (hC : (∀ W : World, Calls Tryd.prog 15 #[.agg #[.int .i64 k, .string q, .string p]] W fun e w' => e = .returned (.bool false) ∧ Kept (fun _ => False) W w')) (cAB : (∀ W : World, Calls Tryd.prog 14 #[.agg #[.int .i64 n, .string v, .string ⟨#[]⟩], .agg #[.int .i64 m, .string u, .string s]] W fun e w' => e = .returned (.int .i64 (0)) ∧ Kept (fun _ => False) W w')) (cBC : (∀ W : World, Calls Tryd.prog 14 #[.agg #[.int .i64 m, .string u, .string s], .agg #[.int .i64 k, .string q, .string p]] W fun e w' => e = .returned (.int .i64 (y)) ∧ Kept (fun _ => False) W w')) (cBA : (∀ W : World, Calls Tryd.prog 14 #[.agg #[.int .i64 m, .string u, .string s], .agg #[.int .i64 n, .string v, .string ⟨#[]⟩]] W fun e w' => e = .returned (.int .i64 (0)) ∧ Kept (fun _ => False) W w')) (cAA : (∀ W : World, Calls Tryd.prog 14 #[.agg #[.int .i64 n, .string v, .string ⟨#[]⟩], .agg #[.int .i64 n, .string v, .string ⟨#[]⟩]] W fun e w' => e = .returned (.int .i64 (0)) ∧ Kept (fun _ => False) W w')) :
    Calls Tryd.prog 6 #[.agg #[.int .i64 n, .string v, .string ⟨#[]⟩], .agg #[.int .i64 m, .string u, .string s], .agg #[.int .i64 k, .string q, .string p]] w fun e w' => e = .returned (.bool true) ∧ Kept (fun _ => False) w w' := by
  have hk0 : Kept (fun _ => False) w (((w.alloc (.cells #[.int .i64 n, .string v, .string ⟨#[]⟩] 30)).alloc (.cells #[.int .i64 m, .string u, .string s] 30)).alloc (.cells #[.int .i64 k, .string q, .string p] 30)) := (((Kept.refl _ _).alloc _).alloc _).alloc _
  have HK := Lib.hid hk0
  have bA := ((Box.made w 30 #[.int .i64 n, .string v, .string ⟨#[]⟩]).after_alloc (.cells #[.int .i64 m, .string u, .string s] 30)).after_alloc (.cells #[.int .i64 k, .string q, .string p] 30)
  have bB := (Box.made (w.alloc (.cells #[.int .i64 n, .string v, .string ⟨#[]⟩] 30)) 30 #[.int .i64 m, .string u, .string s]).after_alloc (.cells #[.int .i64 k, .string q, .string p] 30)
  have bC := Box.made ((w.alloc (.cells #[.int .i64 n, .string v, .string ⟨#[]⟩] 30)).alloc (.cells #[.int .i64 m, .string u, .string s] 30)) 30 #[.int .i64 k, .string q, .string p]
  rw [World.size_alloc] at bB
  rw [World.size_alloc, World.size_alloc] at bC
  have HA := Lib.hid bA
  have HB := Lib.hid bB
  have HC := Lib.hid bC
  clear hk0 bA bB bC
  go_enter Tryd.func6, Tryd.ntmps6
  go_wp2_with (first
    | (go_at_call 8; (first | (with_reducible refine (hW _ HK.out).mono ?_)); rintro e w5 ⟨rfl, hk5⟩; have HA := Lib.hid ((hk5).box HA.out (fun h => h)); have HB := Lib.hid ((hk5).box HB.out (fun h => h)); have HC := Lib.hid ((hk5).box HC.out (fun h => h)); have ax0 := HA.out.cell 0; have ax1 := HA.out.cell 1; have ax2 := HA.out.cell 2; have bx0 := HB.out.cell 0; have bx1 := HB.out.cell 1; have bx2 := HB.out.cell 2; have cx0 := HC.out.cell 0; have cx1 := HC.out.cell 1; have cx2 := HC.out.cell 2; have HK := Lib.hid (Kept.trans HK.out (hk5) (fun _ _ h => h)); clear hk5)
    | (go_at_call 15; (first | (with_reducible refine (hA _).mono ?_) | (with_reducible refine (hB _).mono ?_) | (with_reducible refine (hC _).mono ?_)); rintro e w5 ⟨rfl, hk5⟩; have HA := Lib.hid ((hk5).box HA.out (fun h => h)); have HB := Lib.hid ((hk5).box HB.out (fun h => h)); have HC := Lib.hid ((hk5).box HC.out (fun h => h)); have ax0 := HA.out.cell 0; have ax1 := HA.out.cell 1; have ax2 := HA.out.cell 2; have bx0 := HB.out.cell 0; have bx1 := HB.out.cell 1; have bx2 := HB.out.cell 2; have cx0 := HC.out.cell 0; have cx1 := HC.out.cell 1; have cx2 := HC.out.cell 2; have HK := Lib.hid (Kept.trans HK.out (hk5) (fun _ _ h => h)); clear hk5)
    | fail)
  obtain ⟨T, F, t0, ht0, hFk, hFs⟩ := class_of w5
  have fA := fun t => (hFk t).box HA.out (fun h => h)
  have qA0 : ∀ t, (F t).cell? ⟨w.heap.size, 0, none⟩ = some (.int .i64 n) := fun t => (fA t).cell 0
  have qA1 : ∀ t, (F t).cell? ⟨w.heap.size, 1, none⟩ = some (.string v) := fun t => (fA t).cell 1
  have qA2 : ∀ t, (F t).cell? ⟨w.heap.size, 2, none⟩ = some (.string ⟨#[]⟩) := fun t => (fA t).cell 2
  have fB := fun t => (hFk t).box HB.out (fun h => h)
  have qB0 : ∀ t, (F t).cell? ⟨w.heap.size + 1, 0, none⟩ = some (.int .i64 m) := fun t => (fB t).cell 0
  have qB1 : ∀ t, (F t).cell? ⟨w.heap.size + 1, 1, none⟩ = some (.string u) := fun t => (fB t).cell 1
  have qB2 : ∀ t, (F t).cell? ⟨w.heap.size + 1, 2, none⟩ = some (.string s) := fun t => (fB t).cell 2
  have fC := fun t => (hFk t).box HC.out (fun h => h)
  have qC0 : ∀ t, (F t).cell? ⟨w.heap.size + 1 + 1, 0, none⟩ = some (.int .i64 k) := fun t => (fC t).cell 0
  have qC1 : ∀ t, (F t).cell? ⟨w.heap.size + 1 + 1, 1, none⟩ = some (.string q) := fun t => (fC t).cell 1
  have qC2 : ∀ t, (F t).cell? ⟨w.heap.size + 1 + 1, 2, none⟩ = some (.string p) := fun t => (fC t).cell 2
  have HFK := Lib.hid hFk
  have HFS := Lib.hid hFs
  clear hFk hFs fA fB fC
  have hne : Nonempty T := ⟨t0⟩
  refine wp_region_class F t0 ht0 (by kernel_rfl) (by kernel_rfl) ?_
  repeat (go_big_quiet_step (first | (go_at_call 14; first | with_reducible exact class_call HFS.out (cAB _) | with_reducible exact class_call HFS.out (cBC _))))
  refine wpQuiet_nil ?_
  rintro _ ⟨tz, rfl⟩
  have HA := Lib.hid ((HFK.out tz).box HA.out (fun h => h))
  have HB := Lib.hid ((HFK.out tz).box HB.out (fun h => h))
  have HC := Lib.hid ((HFK.out tz).box HC.out (fun h => h))
  have HK := Lib.hid (Kept.trans HK.out (HFK.out tz) (fun _ _ h => h))
  go_wp2_with fail
  go_wp2_with (first
    | (go_at_call 14; (first | (with_reducible refine (cBA _).mono ?_) | (with_reducible refine (cAA _).mono ?_)); rintro e w5 ⟨rfl, hk5⟩; have HA := Lib.hid ((hk5).box HA.out (fun h => h)); have HB := Lib.hid ((hk5).box HB.out (fun h => h)); have HC := Lib.hid ((hk5).box HC.out (fun h => h)); have ax0 := HA.out.cell 0; have ax1 := HA.out.cell 1; have ax2 := HA.out.cell 2; have bx0 := HB.out.cell 0; have bx1 := HB.out.cell 1; have bx2 := HB.out.cell 2; have cx0 := HC.out.cell 0; have cx1 := HC.out.cell 1; have cx2 := HC.out.cell 2; have HK := Lib.hid (Kept.trans HK.out (hk5) (fun _ _ h => h)); clear hk5)
    | fail)
  all_goals go_ret
  all_goals exact ⟨rfl, HK.out⟩
set_option maxRecDepth 100000 in
set_option maxHeartbeats 2000000 in
theorem order_pA (n m k : Int) (v u s q p : ByteArray) (w : World) (y : Int) (hW : (∀ W : World, Kept (fun _ => False) w W → Calls Tryd.prog 8 #[] W fun e w' => e = .returned (.bool true) ∧ Kept (fun _ => False) W w')) (hA : (∀ W : World, Calls Tryd.prog 15 #[.agg #[.int .i64 n, .string v, .string ⟨#[]⟩]] W fun e w' => e = .returned (.bool false) ∧ Kept (fun _ => False) W w')) (hB : (∀ W : World, Calls Tryd.prog 15 #[.agg #[.int .i64 m, .string u, .string s]] W fun e w' => e = .returned (.bool false) ∧ Kept (fun _ => False) W w')) (hC : (∀ W : World, Calls Tryd.prog 15 #[.agg #[.int .i64 k, .string q, .string p]] W fun e w' => e = .returned (.bool false) ∧ Kept (fun _ => False) W w')) (cAB : (∀ W : World, Calls Tryd.prog 14 #[.agg #[.int .i64 n, .string v, .string ⟨#[]⟩], .agg #[.int .i64 m, .string u, .string s]] W fun e w' => e = .returned (.int .i64 (1)) ∧ Kept (fun _ => False) W w')) (cBC : (∀ W : World, Calls Tryd.prog 14 #[.agg #[.int .i64 m, .string u, .string s], .agg #[.int .i64 k, .string q, .string p]] W fun e w' => e = .returned (.int .i64 (y)) ∧ Kept (fun _ => False) W w')) (cBA : (∀ W : World, Calls Tryd.prog 14 #[.agg #[.int .i64 m, .string u, .string s], .agg #[.int .i64 n, .string v, .string ⟨#[]⟩]] W fun e w' => e = .returned (.int .i64 (-1)) ∧ Kept (fun _ => False) W w')) (cAA : (∀ W : World, Calls Tryd.prog 14 #[.agg #[.int .i64 n, .string v, .string ⟨#[]⟩], .agg #[.int .i64 n, .string v, .string ⟨#[]⟩]] W fun e w' => e = .returned (.int .i64 (0)) ∧ Kept (fun _ => False) W w')) :
    Calls Tryd.prog 6 #[.agg #[.int .i64 n, .string v, .string ⟨#[]⟩], .agg #[.int .i64 m, .string u, .string s], .agg #[.int .i64 k, .string q, .string p]] w fun e w' => e = .returned (.bool true) ∧ Kept (fun _ => False) w w' := by
  have hk0 : Kept (fun _ => False) w (((w.alloc (.cells #[.int .i64 n, .string v, .string ⟨#[]⟩] 30)).alloc (.cells #[.int .i64 m, .string u, .string s] 30)).alloc (.cells #[.int .i64 k, .string q, .string p] 30)) := (((Kept.refl _ _).alloc _).alloc _).alloc _
  have HK := Lib.hid hk0
  have bA := ((Box.made w 30 #[.int .i64 n, .string v, .string ⟨#[]⟩]).after_alloc (.cells #[.int .i64 m, .string u, .string s] 30)).after_alloc (.cells #[.int .i64 k, .string q, .string p] 30)
  have bB := (Box.made (w.alloc (.cells #[.int .i64 n, .string v, .string ⟨#[]⟩] 30)) 30 #[.int .i64 m, .string u, .string s]).after_alloc (.cells #[.int .i64 k, .string q, .string p] 30)
  have bC := Box.made ((w.alloc (.cells #[.int .i64 n, .string v, .string ⟨#[]⟩] 30)).alloc (.cells #[.int .i64 m, .string u, .string s] 30)) 30 #[.int .i64 k, .string q, .string p]
  rw [World.size_alloc] at bB
  rw [World.size_alloc, World.size_alloc] at bC
  have HA := Lib.hid bA
  have HB := Lib.hid bB
  have HC := Lib.hid bC
  clear hk0 bA bB bC
  go_enter Tryd.func6, Tryd.ntmps6
  go_wp2_with (first
    | (go_at_call 8; (first | (with_reducible refine (hW _ HK.out).mono ?_)); rintro e w5 ⟨rfl, hk5⟩; have HA := Lib.hid ((hk5).box HA.out (fun h => h)); have HB := Lib.hid ((hk5).box HB.out (fun h => h)); have HC := Lib.hid ((hk5).box HC.out (fun h => h)); have ax0 := HA.out.cell 0; have ax1 := HA.out.cell 1; have ax2 := HA.out.cell 2; have bx0 := HB.out.cell 0; have bx1 := HB.out.cell 1; have bx2 := HB.out.cell 2; have cx0 := HC.out.cell 0; have cx1 := HC.out.cell 1; have cx2 := HC.out.cell 2; have HK := Lib.hid (Kept.trans HK.out (hk5) (fun _ _ h => h)); clear hk5)
    | (go_at_call 15; (first | (with_reducible refine (hA _).mono ?_) | (with_reducible refine (hB _).mono ?_) | (with_reducible refine (hC _).mono ?_)); rintro e w5 ⟨rfl, hk5⟩; have HA := Lib.hid ((hk5).box HA.out (fun h => h)); have HB := Lib.hid ((hk5).box HB.out (fun h => h)); have HC := Lib.hid ((hk5).box HC.out (fun h => h)); have ax0 := HA.out.cell 0; have ax1 := HA.out.cell 1; have ax2 := HA.out.cell 2; have bx0 := HB.out.cell 0; have bx1 := HB.out.cell 1; have bx2 := HB.out.cell 2; have cx0 := HC.out.cell 0; have cx1 := HC.out.cell 1; have cx2 := HC.out.cell 2; have HK := Lib.hid (Kept.trans HK.out (hk5) (fun _ _ h => h)); clear hk5)
    | fail)
  obtain ⟨T, F, t0, ht0, hFk, hFs⟩ := class_of w5
  have fA := fun t => (hFk t).box HA.out (fun h => h)
  have qA0 : ∀ t, (F t).cell? ⟨w.heap.size, 0, none⟩ = some (.int .i64 n) := fun t => (fA t).cell 0
  have qA1 : ∀ t, (F t).cell? ⟨w.heap.size, 1, none⟩ = some (.string v) := fun t => (fA t).cell 1
  have qA2 : ∀ t, (F t).cell? ⟨w.heap.size, 2, none⟩ = some (.string ⟨#[]⟩) := fun t => (fA t).cell 2
  have fB := fun t => (hFk t).box HB.out (fun h => h)
  have qB0 : ∀ t, (F t).cell? ⟨w.heap.size + 1, 0, none⟩ = some (.int .i64 m) := fun t => (fB t).cell 0
  have qB1 : ∀ t, (F t).cell? ⟨w.heap.size + 1, 1, none⟩ = some (.string u) := fun t => (fB t).cell 1
  have qB2 : ∀ t, (F t).cell? ⟨w.heap.size + 1, 2, none⟩ = some (.string s) := fun t => (fB t).cell 2
  have fC := fun t => (hFk t).box HC.out (fun h => h)
  have qC0 : ∀ t, (F t).cell? ⟨w.heap.size + 1 + 1, 0, none⟩ = some (.int .i64 k) := fun t => (fC t).cell 0
  have qC1 : ∀ t, (F t).cell? ⟨w.heap.size + 1 + 1, 1, none⟩ = some (.string q) := fun t => (fC t).cell 1
  have qC2 : ∀ t, (F t).cell? ⟨w.heap.size + 1 + 1, 2, none⟩ = some (.string p) := fun t => (fC t).cell 2
  have HFK := Lib.hid hFk
  have HFS := Lib.hid hFs
  clear hFk hFs fA fB fC
  have hne : Nonempty T := ⟨t0⟩
  refine wp_region_class F t0 ht0 (by kernel_rfl) (by kernel_rfl) ?_
  repeat (go_big_quiet_step (first | (go_at_call 14; first | with_reducible exact class_call HFS.out (cAB _) | with_reducible exact class_call HFS.out (cBC _))))
  refine wpQuiet_nil ?_
  rintro _ ⟨tz, rfl⟩
  have HA := Lib.hid ((HFK.out tz).box HA.out (fun h => h))
  have HB := Lib.hid ((HFK.out tz).box HB.out (fun h => h))
  have HC := Lib.hid ((HFK.out tz).box HC.out (fun h => h))
  have HK := Lib.hid (Kept.trans HK.out (HFK.out tz) (fun _ _ h => h))
  go_wp2_with fail
  go_wp2_with (first
    | (go_at_call 14; (first | (with_reducible refine (cBA _).mono ?_) | (with_reducible refine (cAA _).mono ?_)); rintro e w5 ⟨rfl, hk5⟩; have HA := Lib.hid ((hk5).box HA.out (fun h => h)); have HB := Lib.hid ((hk5).box HB.out (fun h => h)); have HC := Lib.hid ((hk5).box HC.out (fun h => h)); have ax0 := HA.out.cell 0; have ax1 := HA.out.cell 1; have ax2 := HA.out.cell 2; have bx0 := HB.out.cell 0; have bx1 := HB.out.cell 1; have bx2 := HB.out.cell 2; have cx0 := HC.out.cell 0; have cx1 := HC.out.cell 1; have cx2 := HC.out.cell 2; have HK := Lib.hid (Kept.trans HK.out (hk5) (fun _ _ h => h)); clear hk5)
    | fail)
  all_goals go_ret
  all_goals exact ⟨rfl, HK.out⟩
set_option maxRecDepth 100000 in
set_option maxHeartbeats 2000000 in
theorem order_mB (n m k : Int) (v r u q p : ByteArray) (w : World) (y : Int) (hW : (∀ W : World, Kept (fun _ => False) w W → Calls Tryd.prog 8 #[] W fun e w' => e = .returned (.bool true) ∧ Kept (fun _ => False) W w')) (hA : (∀ W : World, Calls Tryd.prog 15 #[.agg #[.int .i64 n, .string v, .string r]] W fun e w' => e = .returned (.bool false) ∧ Kept (fun _ => False) W w')) (hB : (∀ W : World, Calls Tryd.prog 15 #[.agg #[.int .i64 m, .string u, .string ⟨#[]⟩]] W fun e w' => e = .returned (.bool false) ∧ Kept (fun _ => False) W w')) (hC : (∀ W : World, Calls Tryd.prog 15 #[.agg #[.int .i64 k, .string q, .string p]] W fun e w' => e = .returned (.bool false) ∧ Kept (fun _ => False) W w')) (cAB : (∀ W : World, Calls Tryd.prog 14 #[.agg #[.int .i64 n, .string v, .string r], .agg #[.int .i64 m, .string u, .string ⟨#[]⟩]] W fun e w' => e = .returned (.int .i64 (-1)) ∧ Kept (fun _ => False) W w')) (cBC : (∀ W : World, Calls Tryd.prog 14 #[.agg #[.int .i64 m, .string u, .string ⟨#[]⟩], .agg #[.int .i64 k, .string q, .string p]] W fun e w' => e = .returned (.int .i64 (y)) ∧ Kept (fun _ => False) W w')) (cBA : (∀ W : World, Calls Tryd.prog 14 #[.agg #[.int .i64 m, .string u, .string ⟨#[]⟩], .agg #[.int .i64 n, .string v, .string r]] W fun e w' => e = .returned (.int .i64 (1)) ∧ Kept (fun _ => False) W w')) (cAA : (∀ W : World, Calls Tryd.prog 14 #[.agg #[.int .i64 n, .string v, .string r], .agg #[.int .i64 n, .string v, .string r]] W fun e w' => e = .returned (.int .i64 (0)) ∧ Kept (fun _ => False) W w')) (eA : r ≠ ⟨#[]⟩) :
    Calls Tryd.prog 6 #[.agg #[.int .i64 n, .string v, .string r], .agg #[.int .i64 m, .string u, .string ⟨#[]⟩], .agg #[.int .i64 k, .string q, .string p]] w fun e w' => e = .returned (.bool true) ∧ Kept (fun _ => False) w w' := by
  obtain ⟨gA, gA'⟩ := text_ne eA
  clear eA
  have hk0 : Kept (fun _ => False) w (((w.alloc (.cells #[.int .i64 n, .string v, .string r] 30)).alloc (.cells #[.int .i64 m, .string u, .string ⟨#[]⟩] 30)).alloc (.cells #[.int .i64 k, .string q, .string p] 30)) := (((Kept.refl _ _).alloc _).alloc _).alloc _
  have HK := Lib.hid hk0
  have bA := ((Box.made w 30 #[.int .i64 n, .string v, .string r]).after_alloc (.cells #[.int .i64 m, .string u, .string ⟨#[]⟩] 30)).after_alloc (.cells #[.int .i64 k, .string q, .string p] 30)
  have bB := (Box.made (w.alloc (.cells #[.int .i64 n, .string v, .string r] 30)) 30 #[.int .i64 m, .string u, .string ⟨#[]⟩]).after_alloc (.cells #[.int .i64 k, .string q, .string p] 30)
  have bC := Box.made ((w.alloc (.cells #[.int .i64 n, .string v, .string r] 30)).alloc (.cells #[.int .i64 m, .string u, .string ⟨#[]⟩] 30)) 30 #[.int .i64 k, .string q, .string p]
  rw [World.size_alloc] at bB
  rw [World.size_alloc, World.size_alloc] at bC
  have HA := Lib.hid bA
  have HB := Lib.hid bB
  have HC := Lib.hid bC
  clear hk0 bA bB bC
  go_enter Tryd.func6, Tryd.ntmps6
  go_wp2_with (first
    | (go_at_call 8; (first | (with_reducible refine (hW _ HK.out).mono ?_)); rintro e w5 ⟨rfl, hk5⟩; have HA := Lib.hid ((hk5).box HA.out (fun h => h)); have HB := Lib.hid ((hk5).box HB.out (fun h => h)); have HC := Lib.hid ((hk5).box HC.out (fun h => h)); have ax0 := HA.out.cell 0; have ax1 := HA.out.cell 1; have ax2 := HA.out.cell 2; have bx0 := HB.out.cell 0; have bx1 := HB.out.cell 1; have bx2 := HB.out.cell 2; have cx0 := HC.out.cell 0; have cx1 := HC.out.cell 1; have cx2 := HC.out.cell 2; have HK := Lib.hid (Kept.trans HK.out (hk5) (fun _ _ h => h)); clear hk5)
    | (go_at_call 15; (first | (with_reducible refine (hA _).mono ?_) | (with_reducible refine (hB _).mono ?_) | (with_reducible refine (hC _).mono ?_)); rintro e w5 ⟨rfl, hk5⟩; have HA := Lib.hid ((hk5).box HA.out (fun h => h)); have HB := Lib.hid ((hk5).box HB.out (fun h => h)); have HC := Lib.hid ((hk5).box HC.out (fun h => h)); have ax0 := HA.out.cell 0; have ax1 := HA.out.cell 1; have ax2 := HA.out.cell 2; have bx0 := HB.out.cell 0; have bx1 := HB.out.cell 1; have bx2 := HB.out.cell 2; have cx0 := HC.out.cell 0; have cx1 := HC.out.cell 1; have cx2 := HC.out.cell 2; have HK := Lib.hid (Kept.trans HK.out (hk5) (fun _ _ h => h)); clear hk5)
    | fail)
  obtain ⟨T, F, t0, ht0, hFk, hFs⟩ := class_of w5
  have fA := fun t => (hFk t).box HA.out (fun h => h)
  have qA0 : ∀ t, (F t).cell? ⟨w.heap.size, 0, none⟩ = some (.int .i64 n) := fun t => (fA t).cell 0
  have qA1 : ∀ t, (F t).cell? ⟨w.heap.size, 1, none⟩ = some (.string v) := fun t => (fA t).cell 1
  have qA2 : ∀ t, (F t).cell? ⟨w.heap.size, 2, none⟩ = some (.string r) := fun t => (fA t).cell 2
  have fB := fun t => (hFk t).box HB.out (fun h => h)
  have qB0 : ∀ t, (F t).cell? ⟨w.heap.size + 1, 0, none⟩ = some (.int .i64 m) := fun t => (fB t).cell 0
  have qB1 : ∀ t, (F t).cell? ⟨w.heap.size + 1, 1, none⟩ = some (.string u) := fun t => (fB t).cell 1
  have qB2 : ∀ t, (F t).cell? ⟨w.heap.size + 1, 2, none⟩ = some (.string ⟨#[]⟩) := fun t => (fB t).cell 2
  have fC := fun t => (hFk t).box HC.out (fun h => h)
  have qC0 : ∀ t, (F t).cell? ⟨w.heap.size + 1 + 1, 0, none⟩ = some (.int .i64 k) := fun t => (fC t).cell 0
  have qC1 : ∀ t, (F t).cell? ⟨w.heap.size + 1 + 1, 1, none⟩ = some (.string q) := fun t => (fC t).cell 1
  have qC2 : ∀ t, (F t).cell? ⟨w.heap.size + 1 + 1, 2, none⟩ = some (.string p) := fun t => (fC t).cell 2
  have HFK := Lib.hid hFk
  have HFS := Lib.hid hFs
  clear hFk hFs fA fB fC
  have hne : Nonempty T := ⟨t0⟩
  refine wp_region_class F t0 ht0 (by kernel_rfl) (by kernel_rfl) ?_
  repeat (go_big_quiet_step (first | (go_at_call 14; first | with_reducible exact class_call HFS.out (cAB _) | with_reducible exact class_call HFS.out (cBC _))))
  refine wpQuiet_nil ?_
  rintro _ ⟨tz, rfl⟩
  have HA := Lib.hid ((HFK.out tz).box HA.out (fun h => h))
  have HB := Lib.hid ((HFK.out tz).box HB.out (fun h => h))
  have HC := Lib.hid ((HFK.out tz).box HC.out (fun h => h))
  have HK := Lib.hid (Kept.trans HK.out (HFK.out tz) (fun _ _ h => h))
  go_wp2_with fail
  go_wp2_with (first
    | (go_at_call 14; (first | (with_reducible refine (cBA _).mono ?_) | (with_reducible refine (cAA _).mono ?_)); rintro e w5 ⟨rfl, hk5⟩; have HA := Lib.hid ((hk5).box HA.out (fun h => h)); have HB := Lib.hid ((hk5).box HB.out (fun h => h)); have HC := Lib.hid ((hk5).box HC.out (fun h => h)); have ax0 := HA.out.cell 0; have ax1 := HA.out.cell 1; have ax2 := HA.out.cell 2; have bx0 := HB.out.cell 0; have bx1 := HB.out.cell 1; have bx2 := HB.out.cell 2; have cx0 := HC.out.cell 0; have cx1 := HC.out.cell 1; have cx2 := HC.out.cell 2; have HK := Lib.hid (Kept.trans HK.out (hk5) (fun _ _ h => h)); clear hk5)
    | fail)
  all_goals go_ret
  all_goals exact ⟨rfl, HK.out⟩
set_option maxRecDepth 100000 in
set_option maxHeartbeats 2000000 in
theorem order_oB (n m k : Int) (v r u q p : ByteArray) (w : World) (y : Int) (hW : (∀ W : World, Kept (fun _ => False) w W → Calls Tryd.prog 8 #[] W fun e w' => e = .returned (.bool true) ∧ Kept (fun _ => False) W w')) (hA : (∀ W : World, Calls Tryd.prog 15 #[.agg #[.int .i64 n, .string v, .string r]] W fun e w' => e = .returned (.bool false) ∧ Kept (fun _ => False) W w')) (hB : (∀ W : World, Calls Tryd.prog 15 #[.agg #[.int .i64 m, .string u, .string ⟨#[]⟩]] W fun e w' => e = .returned (.bool false) ∧ Kept (fun _ => False) W w')) (hC : (∀ W : World, Calls Tryd.prog 15 #[.agg #[.int .i64 k, .string q, .string p]] W fun e w' => e = .returned (.bool false) ∧ Kept (fun _ => False) W w')) (cAB : (∀ W : World, Calls Tryd.prog 14 #[.agg #[.int .i64 n, .string v, .string r], .agg #[.int .i64 m, .string u, .string ⟨#[]⟩]] W fun e w' => e = .returned (.int .i64 (0)) ∧ Kept (fun _ => False) W w')) (cBC : (∀ W : World, Calls Tryd.prog 14 #[.agg #[.int .i64 m, .string u, .string ⟨#[]⟩], .agg #[.int .i64 k, .string q, .string p]] W fun e w' => e = .returned (.int .i64 (y)) ∧ Kept (fun _ => False) W w')) (cBA : (∀ W : World, Calls Tryd.prog 14 #[.agg #[.int .i64 m, .string u, .string ⟨#[]⟩], .agg #[.int .i64 n, .string v, .string r]] W fun e w' => e = .returned (.int .i64 (0)) ∧ Kept (fun _ => False) W w')) (cAA : (∀ W : World, Calls Tryd.prog 14 #[.agg #[.int .i64 n, .string v, .string r], .agg #[.int .i64 n, .string v, .string r]] W fun e w' => e = .returned (.int .i64 (0)) ∧ Kept (fun _ => False) W w')) (eA : r ≠ ⟨#[]⟩) :
    Calls Tryd.prog 6 #[.agg #[.int .i64 n, .string v, .string r], .agg #[.int .i64 m, .string u, .string ⟨#[]⟩], .agg #[.int .i64 k, .string q, .string p]] w fun e w' => e = .returned (.bool true) ∧ Kept (fun _ => False) w w' := by
  obtain ⟨gA, gA'⟩ := text_ne eA
  clear eA
  have hk0 : Kept (fun _ => False) w (((w.alloc (.cells #[.int .i64 n, .string v, .string r] 30)).alloc (.cells #[.int .i64 m, .string u, .string ⟨#[]⟩] 30)).alloc (.cells #[.int .i64 k, .string q, .string p] 30)) := (((Kept.refl _ _).alloc _).alloc _).alloc _
  have HK := Lib.hid hk0
  have bA := ((Box.made w 30 #[.int .i64 n, .string v, .string r]).after_alloc (.cells #[.int .i64 m, .string u, .string ⟨#[]⟩] 30)).after_alloc (.cells #[.int .i64 k, .string q, .string p] 30)
  have bB := (Box.made (w.alloc (.cells #[.int .i64 n, .string v, .string r] 30)) 30 #[.int .i64 m, .string u, .string ⟨#[]⟩]).after_alloc (.cells #[.int .i64 k, .string q, .string p] 30)
  have bC := Box.made ((w.alloc (.cells #[.int .i64 n, .string v, .string r] 30)).alloc (.cells #[.int .i64 m, .string u, .string ⟨#[]⟩] 30)) 30 #[.int .i64 k, .string q, .string p]
  rw [World.size_alloc] at bB
  rw [World.size_alloc, World.size_alloc] at bC
  have HA := Lib.hid bA
  have HB := Lib.hid bB
  have HC := Lib.hid bC
  clear hk0 bA bB bC
  go_enter Tryd.func6, Tryd.ntmps6
  go_wp2_with (first
    | (go_at_call 8; (first | (with_reducible refine (hW _ HK.out).mono ?_)); rintro e w5 ⟨rfl, hk5⟩; have HA := Lib.hid ((hk5).box HA.out (fun h => h)); have HB := Lib.hid ((hk5).box HB.out (fun h => h)); have HC := Lib.hid ((hk5).box HC.out (fun h => h)); have ax0 := HA.out.cell 0; have ax1 := HA.out.cell 1; have ax2 := HA.out.cell 2; have bx0 := HB.out.cell 0; have bx1 := HB.out.cell 1; have bx2 := HB.out.cell 2; have cx0 := HC.out.cell 0; have cx1 := HC.out.cell 1; have cx2 := HC.out.cell 2; have HK := Lib.hid (Kept.trans HK.out (hk5) (fun _ _ h => h)); clear hk5)
    | (go_at_call 15; (first | (with_reducible refine (hA _).mono ?_) | (with_reducible refine (hB _).mono ?_) | (with_reducible refine (hC _).mono ?_)); rintro e w5 ⟨rfl, hk5⟩; have HA := Lib.hid ((hk5).box HA.out (fun h => h)); have HB := Lib.hid ((hk5).box HB.out (fun h => h)); have HC := Lib.hid ((hk5).box HC.out (fun h => h)); have ax0 := HA.out.cell 0; have ax1 := HA.out.cell 1; have ax2 := HA.out.cell 2; have bx0 := HB.out.cell 0; have bx1 := HB.out.cell 1; have bx2 := HB.out.cell 2; have cx0 := HC.out.cell 0; have cx1 := HC.out.cell 1; have cx2 := HC.out.cell 2; have HK := Lib.hid (Kept.trans HK.out (hk5) (fun _ _ h => h)); clear hk5)
    | fail)
  obtain ⟨T, F, t0, ht0, hFk, hFs⟩ := class_of w5
  have fA := fun t => (hFk t).box HA.out (fun h => h)
  have qA0 : ∀ t, (F t).cell? ⟨w.heap.size, 0, none⟩ = some (.int .i64 n) := fun t => (fA t).cell 0
  have qA1 : ∀ t, (F t).cell? ⟨w.heap.size, 1, none⟩ = some (.string v) := fun t => (fA t).cell 1
  have qA2 : ∀ t, (F t).cell? ⟨w.heap.size, 2, none⟩ = some (.string r) := fun t => (fA t).cell 2
  have fB := fun t => (hFk t).box HB.out (fun h => h)
  have qB0 : ∀ t, (F t).cell? ⟨w.heap.size + 1, 0, none⟩ = some (.int .i64 m) := fun t => (fB t).cell 0
  have qB1 : ∀ t, (F t).cell? ⟨w.heap.size + 1, 1, none⟩ = some (.string u) := fun t => (fB t).cell 1
  have qB2 : ∀ t, (F t).cell? ⟨w.heap.size + 1, 2, none⟩ = some (.string ⟨#[]⟩) := fun t => (fB t).cell 2
  have fC := fun t => (hFk t).box HC.out (fun h => h)
  have qC0 : ∀ t, (F t).cell? ⟨w.heap.size + 1 + 1, 0, none⟩ = some (.int .i64 k) := fun t => (fC t).cell 0
  have qC1 : ∀ t, (F t).cell? ⟨w.heap.size + 1 + 1, 1, none⟩ = some (.string q) := fun t => (fC t).cell 1
  have qC2 : ∀ t, (F t).cell? ⟨w.heap.size + 1 + 1, 2, none⟩ = some (.string p) := fun t => (fC t).cell 2
  have HFK := Lib.hid hFk
  have HFS := Lib.hid hFs
  clear hFk hFs fA fB fC
  have hne : Nonempty T := ⟨t0⟩
  refine wp_region_class F t0 ht0 (by kernel_rfl) (by kernel_rfl) ?_
  repeat (go_big_quiet_step (first | (go_at_call 14; first | with_reducible exact class_call HFS.out (cAB _) | with_reducible exact class_call HFS.out (cBC _))))
  refine wpQuiet_nil ?_
  rintro _ ⟨tz, rfl⟩
  have HA := Lib.hid ((HFK.out tz).box HA.out (fun h => h))
  have HB := Lib.hid ((HFK.out tz).box HB.out (fun h => h))
  have HC := Lib.hid ((HFK.out tz).box HC.out (fun h => h))
  have HK := Lib.hid (Kept.trans HK.out (HFK.out tz) (fun _ _ h => h))
  go_wp2_with fail
  go_wp2_with (first
    | (go_at_call 14; (first | (with_reducible refine (cBA _).mono ?_) | (with_reducible refine (cAA _).mono ?_)); rintro e w5 ⟨rfl, hk5⟩; have HA := Lib.hid ((hk5).box HA.out (fun h => h)); have HB := Lib.hid ((hk5).box HB.out (fun h => h)); have HC := Lib.hid ((hk5).box HC.out (fun h => h)); have ax0 := HA.out.cell 0; have ax1 := HA.out.cell 1; have ax2 := HA.out.cell 2; have bx0 := HB.out.cell 0; have bx1 := HB.out.cell 1; have bx2 := HB.out.cell 2; have cx0 := HC.out.cell 0; have cx1 := HC.out.cell 1; have cx2 := HC.out.cell 2; have HK := Lib.hid (Kept.trans HK.out (hk5) (fun _ _ h => h)); clear hk5)
    | fail)
  all_goals go_ret
  all_goals exact ⟨rfl, HK.out⟩
set_option maxRecDepth 100000 in
set_option maxHeartbeats 2000000 in
theorem order_pB (n m k : Int) (v r u q p : ByteArray) (w : World) (y : Int) (hW : (∀ W : World, Kept (fun _ => False) w W → Calls Tryd.prog 8 #[] W fun e w' => e = .returned (.bool true) ∧ Kept (fun _ => False) W w')) (hA : (∀ W : World, Calls Tryd.prog 15 #[.agg #[.int .i64 n, .string v, .string r]] W fun e w' => e = .returned (.bool false) ∧ Kept (fun _ => False) W w')) (hB : (∀ W : World, Calls Tryd.prog 15 #[.agg #[.int .i64 m, .string u, .string ⟨#[]⟩]] W fun e w' => e = .returned (.bool false) ∧ Kept (fun _ => False) W w')) (hC : (∀ W : World, Calls Tryd.prog 15 #[.agg #[.int .i64 k, .string q, .string p]] W fun e w' => e = .returned (.bool false) ∧ Kept (fun _ => False) W w')) (cAB : (∀ W : World, Calls Tryd.prog 14 #[.agg #[.int .i64 n, .string v, .string r], .agg #[.int .i64 m, .string u, .string ⟨#[]⟩]] W fun e w' => e = .returned (.int .i64 (1)) ∧ Kept (fun _ => False) W w')) (cBC : (∀ W : World, Calls Tryd.prog 14 #[.agg #[.int .i64 m, .string u, .string ⟨#[]⟩], .agg #[.int .i64 k, .string q, .string p]] W fun e w' => e = .returned (.int .i64 (y)) ∧ Kept (fun _ => False) W w')) (cBA : (∀ W : World, Calls Tryd.prog 14 #[.agg #[.int .i64 m, .string u, .string ⟨#[]⟩], .agg #[.int .i64 n, .string v, .string r]] W fun e w' => e = .returned (.int .i64 (-1)) ∧ Kept (fun _ => False) W w')) (cAA : (∀ W : World, Calls Tryd.prog 14 #[.agg #[.int .i64 n, .string v, .string r], .agg #[.int .i64 n, .string v, .string r]] W fun e w' => e = .returned (.int .i64 (0)) ∧ Kept (fun _ => False) W w')) (eA : r ≠ ⟨#[]⟩) :
    Calls Tryd.prog 6 #[.agg #[.int .i64 n, .string v, .string r], .agg #[.int .i64 m, .string u, .string ⟨#[]⟩], .agg #[.int .i64 k, .string q, .string p]] w fun e w' => e = .returned (.bool true) ∧ Kept (fun _ => False) w w' := by
  obtain ⟨gA, gA'⟩ := text_ne eA
  clear eA
  have hk0 : Kept (fun _ => False) w (((w.alloc (.cells #[.int .i64 n, .string v, .string r] 30)).alloc (.cells #[.int .i64 m, .string u, .string ⟨#[]⟩] 30)).alloc (.cells #[.int .i64 k, .string q, .string p] 30)) := (((Kept.refl _ _).alloc _).alloc _).alloc _
  have HK := Lib.hid hk0
  have bA := ((Box.made w 30 #[.int .i64 n, .string v, .string r]).after_alloc (.cells #[.int .i64 m, .string u, .string ⟨#[]⟩] 30)).after_alloc (.cells #[.int .i64 k, .string q, .string p] 30)
  have bB := (Box.made (w.alloc (.cells #[.int .i64 n, .string v, .string r] 30)) 30 #[.int .i64 m, .string u, .string ⟨#[]⟩]).after_alloc (.cells #[.int .i64 k, .string q, .string p] 30)
  have bC := Box.made ((w.alloc (.cells #[.int .i64 n, .string v, .string r] 30)).alloc (.cells #[.int .i64 m, .string u, .string ⟨#[]⟩] 30)) 30 #[.int .i64 k, .string q, .string p]
  rw [World.size_alloc] at bB
  rw [World.size_alloc, World.size_alloc] at bC
  have HA := Lib.hid bA
  have HB := Lib.hid bB
  have HC := Lib.hid bC
  clear hk0 bA bB bC
  go_enter Tryd.func6, Tryd.ntmps6
  go_wp2_with (first
    | (go_at_call 8; (first | (with_reducible refine (hW _ HK.out).mono ?_)); rintro e w5 ⟨rfl, hk5⟩; have HA := Lib.hid ((hk5).box HA.out (fun h => h)); have HB := Lib.hid ((hk5).box HB.out (fun h => h)); have HC := Lib.hid ((hk5).box HC.out (fun h => h)); have ax0 := HA.out.cell 0; have ax1 := HA.out.cell 1; have ax2 := HA.out.cell 2; have bx0 := HB.out.cell 0; have bx1 := HB.out.cell 1; have bx2 := HB.out.cell 2; have cx0 := HC.out.cell 0; have cx1 := HC.out.cell 1; have cx2 := HC.out.cell 2; have HK := Lib.hid (Kept.trans HK.out (hk5) (fun _ _ h => h)); clear hk5)
    | (go_at_call 15; (first | (with_reducible refine (hA _).mono ?_) | (with_reducible refine (hB _).mono ?_) | (with_reducible refine (hC _).mono ?_)); rintro e w5 ⟨rfl, hk5⟩; have HA := Lib.hid ((hk5).box HA.out (fun h => h)); have HB := Lib.hid ((hk5).box HB.out (fun h => h)); have HC := Lib.hid ((hk5).box HC.out (fun h => h)); have ax0 := HA.out.cell 0; have ax1 := HA.out.cell 1; have ax2 := HA.out.cell 2; have bx0 := HB.out.cell 0; have bx1 := HB.out.cell 1; have bx2 := HB.out.cell 2; have cx0 := HC.out.cell 0; have cx1 := HC.out.cell 1; have cx2 := HC.out.cell 2; have HK := Lib.hid (Kept.trans HK.out (hk5) (fun _ _ h => h)); clear hk5)
    | fail)
  obtain ⟨T, F, t0, ht0, hFk, hFs⟩ := class_of w5
  have fA := fun t => (hFk t).box HA.out (fun h => h)
  have qA0 : ∀ t, (F t).cell? ⟨w.heap.size, 0, none⟩ = some (.int .i64 n) := fun t => (fA t).cell 0
  have qA1 : ∀ t, (F t).cell? ⟨w.heap.size, 1, none⟩ = some (.string v) := fun t => (fA t).cell 1
  have qA2 : ∀ t, (F t).cell? ⟨w.heap.size, 2, none⟩ = some (.string r) := fun t => (fA t).cell 2
  have fB := fun t => (hFk t).box HB.out (fun h => h)
  have qB0 : ∀ t, (F t).cell? ⟨w.heap.size + 1, 0, none⟩ = some (.int .i64 m) := fun t => (fB t).cell 0
  have qB1 : ∀ t, (F t).cell? ⟨w.heap.size + 1, 1, none⟩ = some (.string u) := fun t => (fB t).cell 1
  have qB2 : ∀ t, (F t).cell? ⟨w.heap.size + 1, 2, none⟩ = some (.string ⟨#[]⟩) := fun t => (fB t).cell 2
  have fC := fun t => (hFk t).box HC.out (fun h => h)
  have qC0 : ∀ t, (F t).cell? ⟨w.heap.size + 1 + 1, 0, none⟩ = some (.int .i64 k) := fun t => (fC t).cell 0
  have qC1 : ∀ t, (F t).cell? ⟨w.heap.size + 1 + 1, 1, none⟩ = some (.string q) := fun t => (fC t).cell 1
  have qC2 : ∀ t, (F t).cell? ⟨w.heap.size + 1 + 1, 2, none⟩ = some (.string p) := fun t => (fC t).cell 2
  have HFK := Lib.hid hFk
  have HFS := Lib.hid hFs
  clear hFk hFs fA fB fC
  have hne : Nonempty T := ⟨t0⟩
  refine wp_region_class F t0 ht0 (by kernel_rfl) (by kernel_rfl) ?_
  repeat (go_big_quiet_step (first | (go_at_call 14; first | with_reducible exact class_call HFS.out (cAB _) | with_reducible exact class_call HFS.out (cBC _))))
  refine wpQuiet_nil ?_
  rintro _ ⟨tz, rfl⟩
  have HA := Lib.hid ((HFK.out tz).box HA.out (fun h => h))
  have HB := Lib.hid ((HFK.out tz).box HB.out (fun h => h))
  have HC := Lib.hid ((HFK.out tz).box HC.out (fun h => h))
  have HK := Lib.hid (Kept.trans HK.out (HFK.out tz) (fun _ _ h => h))
  go_wp2_with fail
  go_wp2_with (first
    | (go_at_call 14; (first | (with_reducible refine (cBA _).mono ?_) | (with_reducible refine (cAA _).mono ?_)); rintro e w5 ⟨rfl, hk5⟩; have HA := Lib.hid ((hk5).box HA.out (fun h => h)); have HB := Lib.hid ((hk5).box HB.out (fun h => h)); have HC := Lib.hid ((hk5).box HC.out (fun h => h)); have ax0 := HA.out.cell 0; have ax1 := HA.out.cell 1; have ax2 := HA.out.cell 2; have bx0 := HB.out.cell 0; have bx1 := HB.out.cell 1; have bx2 := HB.out.cell 2; have cx0 := HC.out.cell 0; have cx1 := HC.out.cell 1; have cx2 := HC.out.cell 2; have HK := Lib.hid (Kept.trans HK.out (hk5) (fun _ _ h => h)); clear hk5)
    | fail)
  all_goals go_ret
  all_goals exact ⟨rfl, HK.out⟩
set_option maxRecDepth 100000 in
set_option maxHeartbeats 2000000 in
theorem order_mC (n m k : Int) (v r u s q : ByteArray) (w : World) (y : Int) (hW : (∀ W : World, Kept (fun _ => False) w W → Calls Tryd.prog 8 #[] W fun e w' => e = .returned (.bool true) ∧ Kept (fun _ => False) W w')) (hA : (∀ W : World, Calls Tryd.prog 15 #[.agg #[.int .i64 n, .string v, .string r]] W fun e w' => e = .returned (.bool false) ∧ Kept (fun _ => False) W w')) (hB : (∀ W : World, Calls Tryd.prog 15 #[.agg #[.int .i64 m, .string u, .string s]] W fun e w' => e = .returned (.bool false) ∧ Kept (fun _ => False) W w')) (hC : (∀ W : World, Calls Tryd.prog 15 #[.agg #[.int .i64 k, .string q, .string ⟨#[]⟩]] W fun e w' => e = .returned (.bool false) ∧ Kept (fun _ => False) W w')) (cAB : (∀ W : World, Calls Tryd.prog 14 #[.agg #[.int .i64 n, .string v, .string r], .agg #[.int .i64 m, .string u, .string s]] W fun e w' => e = .returned (.int .i64 (-1)) ∧ Kept (fun _ => False) W w')) (cBC : (∀ W : World, Calls Tryd.prog 14 #[.agg #[.int .i64 m, .string u, .string s], .agg #[.int .i64 k, .string q, .string ⟨#[]⟩]] W fun e w' => e = .returned (.int .i64 (y)) ∧ Kept (fun _ => False) W w')) (cBA : (∀ W : World, Calls Tryd.prog 14 #[.agg #[.int .i64 m, .string u, .string s], .agg #[.int .i64 n, .string v, .string r]] W fun e w' => e = .returned (.int .i64 (1)) ∧ Kept (fun _ => False) W w')) (cAA : (∀ W : World, Calls Tryd.prog 14 #[.agg #[.int .i64 n, .string v, .string r], .agg #[.int .i64 n, .string v, .string r]] W fun e w' => e = .returned (.int .i64 (0)) ∧ Kept (fun _ => False) W w')) (eA : r ≠ ⟨#[]⟩) (eB : s ≠ ⟨#[]⟩) :
    Calls Tryd.prog 6 #[.agg #[.int .i64 n, .string v, .string r], .agg #[.int .i64 m, .string u, .string s], .agg #[.int .i64 k, .string q, .string ⟨#[]⟩]] w fun e w' => e = .returned (.bool true) ∧ Kept (fun _ => False) w w' := by
  obtain ⟨gA, gA'⟩ := text_ne eA
  clear eA
  obtain ⟨gB, gB'⟩ := text_ne eB
  clear eB
  have hk0 : Kept (fun _ => False) w (((w.alloc (.cells #[.int .i64 n, .string v, .string r] 30)).alloc (.cells #[.int .i64 m, .string u, .string s] 30)).alloc (.cells #[.int .i64 k, .string q, .string ⟨#[]⟩] 30)) := (((Kept.refl _ _).alloc _).alloc _).alloc _
  have HK := Lib.hid hk0
  have bA := ((Box.made w 30 #[.int .i64 n, .string v, .string r]).after_alloc (.cells #[.int .i64 m, .string u, .string s] 30)).after_alloc (.cells #[.int .i64 k, .string q, .string ⟨#[]⟩] 30)
  have bB := (Box.made (w.alloc (.cells #[.int .i64 n, .string v, .string r] 30)) 30 #[.int .i64 m, .string u, .string s]).after_alloc (.cells #[.int .i64 k, .string q, .string ⟨#[]⟩] 30)
  have bC := Box.made ((w.alloc (.cells #[.int .i64 n, .string v, .string r] 30)).alloc (.cells #[.int .i64 m, .string u, .string s] 30)) 30 #[.int .i64 k, .string q, .string ⟨#[]⟩]
  rw [World.size_alloc] at bB
  rw [World.size_alloc, World.size_alloc] at bC
  have HA := Lib.hid bA
  have HB := Lib.hid bB
  have HC := Lib.hid bC
  clear hk0 bA bB bC
  go_enter Tryd.func6, Tryd.ntmps6
  go_wp2_with (first
    | (go_at_call 8; (first | (with_reducible refine (hW _ HK.out).mono ?_)); rintro e w5 ⟨rfl, hk5⟩; have HA := Lib.hid ((hk5).box HA.out (fun h => h)); have HB := Lib.hid ((hk5).box HB.out (fun h => h)); have HC := Lib.hid ((hk5).box HC.out (fun h => h)); have ax0 := HA.out.cell 0; have ax1 := HA.out.cell 1; have ax2 := HA.out.cell 2; have bx0 := HB.out.cell 0; have bx1 := HB.out.cell 1; have bx2 := HB.out.cell 2; have cx0 := HC.out.cell 0; have cx1 := HC.out.cell 1; have cx2 := HC.out.cell 2; have HK := Lib.hid (Kept.trans HK.out (hk5) (fun _ _ h => h)); clear hk5)
    | (go_at_call 15; (first | (with_reducible refine (hA _).mono ?_) | (with_reducible refine (hB _).mono ?_) | (with_reducible refine (hC _).mono ?_)); rintro e w5 ⟨rfl, hk5⟩; have HA := Lib.hid ((hk5).box HA.out (fun h => h)); have HB := Lib.hid ((hk5).box HB.out (fun h => h)); have HC := Lib.hid ((hk5).box HC.out (fun h => h)); have ax0 := HA.out.cell 0; have ax1 := HA.out.cell 1; have ax2 := HA.out.cell 2; have bx0 := HB.out.cell 0; have bx1 := HB.out.cell 1; have bx2 := HB.out.cell 2; have cx0 := HC.out.cell 0; have cx1 := HC.out.cell 1; have cx2 := HC.out.cell 2; have HK := Lib.hid (Kept.trans HK.out (hk5) (fun _ _ h => h)); clear hk5)
    | fail)
  obtain ⟨T, F, t0, ht0, hFk, hFs⟩ := class_of w5
  have fA := fun t => (hFk t).box HA.out (fun h => h)
  have qA0 : ∀ t, (F t).cell? ⟨w.heap.size, 0, none⟩ = some (.int .i64 n) := fun t => (fA t).cell 0
  have qA1 : ∀ t, (F t).cell? ⟨w.heap.size, 1, none⟩ = some (.string v) := fun t => (fA t).cell 1
  have qA2 : ∀ t, (F t).cell? ⟨w.heap.size, 2, none⟩ = some (.string r) := fun t => (fA t).cell 2
  have fB := fun t => (hFk t).box HB.out (fun h => h)
  have qB0 : ∀ t, (F t).cell? ⟨w.heap.size + 1, 0, none⟩ = some (.int .i64 m) := fun t => (fB t).cell 0
  have qB1 : ∀ t, (F t).cell? ⟨w.heap.size + 1, 1, none⟩ = some (.string u) := fun t => (fB t).cell 1
  have qB2 : ∀ t, (F t).cell? ⟨w.heap.size + 1, 2, none⟩ = some (.string s) := fun t => (fB t).cell 2
  have fC := fun t => (hFk t).box HC.out (fun h => h)
  have qC0 : ∀ t, (F t).cell? ⟨w.heap.size + 1 + 1, 0, none⟩ = some (.int .i64 k) := fun t => (fC t).cell 0
  have qC1 : ∀ t, (F t).cell? ⟨w.heap.size + 1 + 1, 1, none⟩ = some (.string q) := fun t => (fC t).cell 1
  have qC2 : ∀ t, (F t).cell? ⟨w.heap.size + 1 + 1, 2, none⟩ = some (.string ⟨#[]⟩) := fun t => (fC t).cell 2
  have HFK := Lib.hid hFk
  have HFS := Lib.hid hFs
  clear hFk hFs fA fB fC
  have hne : Nonempty T := ⟨t0⟩
  refine wp_region_class F t0 ht0 (by kernel_rfl) (by kernel_rfl) ?_
  repeat (go_big_quiet_step (first | (go_at_call 14; first | with_reducible exact class_call HFS.out (cAB _) | with_reducible exact class_call HFS.out (cBC _))))
  refine wpQuiet_nil ?_
  rintro _ ⟨tz, rfl⟩
  have HA := Lib.hid ((HFK.out tz).box HA.out (fun h => h))
  have HB := Lib.hid ((HFK.out tz).box HB.out (fun h => h))
  have HC := Lib.hid ((HFK.out tz).box HC.out (fun h => h))
  have HK := Lib.hid (Kept.trans HK.out (HFK.out tz) (fun _ _ h => h))
  go_wp2_with fail
  go_wp2_with (first
    | (go_at_call 14; (first | (with_reducible refine (cBA _).mono ?_) | (with_reducible refine (cAA _).mono ?_)); rintro e w5 ⟨rfl, hk5⟩; have HA := Lib.hid ((hk5).box HA.out (fun h => h)); have HB := Lib.hid ((hk5).box HB.out (fun h => h)); have HC := Lib.hid ((hk5).box HC.out (fun h => h)); have ax0 := HA.out.cell 0; have ax1 := HA.out.cell 1; have ax2 := HA.out.cell 2; have bx0 := HB.out.cell 0; have bx1 := HB.out.cell 1; have bx2 := HB.out.cell 2; have cx0 := HC.out.cell 0; have cx1 := HC.out.cell 1; have cx2 := HC.out.cell 2; have HK := Lib.hid (Kept.trans HK.out (hk5) (fun _ _ h => h)); clear hk5)
    | fail)
  all_goals go_ret
  all_goals exact ⟨rfl, HK.out⟩
set_option maxRecDepth 100000 in
set_option maxHeartbeats 2000000 in
theorem order_oC (n m k : Int) (v r u s q : ByteArray) (w : World) (y : Int) (hW : (∀ W : World, Kept (fun _ => False) w W → Calls Tryd.prog 8 #[] W fun e w' => e = .returned (.bool true) ∧ Kept (fun _ => False) W w')) (hA : (∀ W : World, Calls Tryd.prog 15 #[.agg #[.int .i64 n, .string v, .string r]] W fun e w' => e = .returned (.bool false) ∧ Kept (fun _ => False) W w')) (hB : (∀ W : World, Calls Tryd.prog 15 #[.agg #[.int .i64 m, .string u, .string s]] W fun e w' => e = .returned (.bool false) ∧ Kept (fun _ => False) W w')) (hC : (∀ W : World, Calls Tryd.prog 15 #[.agg #[.int .i64 k, .string q, .string ⟨#[]⟩]] W fun e w' => e = .returned (.bool false) ∧ Kept (fun _ => False) W w')) (cAB : (∀ W : World, Calls Tryd.prog 14 #[.agg #[.int .i64 n, .string v, .string r], .agg #[.int .i64 m, .string u, .string s]] W fun e w' => e = .returned (.int .i64 (0)) ∧ Kept (fun _ => False) W w')) (cBC : (∀ W : World, Calls Tryd.prog 14 #[.agg #[.int .i64 m, .string u, .string s], .agg #[.int .i64 k, .string q, .string ⟨#[]⟩]] W fun e w' => e = .returned (.int .i64 (y)) ∧ Kept (fun _ => False) W w')) (cBA : (∀ W : World, Calls Tryd.prog 14 #[.agg #[.int .i64 m, .string u, .string s], .agg #[.int .i64 n, .string v, .string r]] W fun e w' => e = .returned (.int .i64 (0)) ∧ Kept (fun _ => False) W w')) (cAA : (∀ W : World, Calls Tryd.prog 14 #[.agg #[.int .i64 n, .string v, .string r], .agg #[.int .i64 n, .string v, .string r]] W fun e w' => e = .returned (.int .i64 (0)) ∧ Kept (fun _ => False) W w')) (eA : r ≠ ⟨#[]⟩) (eB : s ≠ ⟨#[]⟩) :
    Calls Tryd.prog 6 #[.agg #[.int .i64 n, .string v, .string r], .agg #[.int .i64 m, .string u, .string s], .agg #[.int .i64 k, .string q, .string ⟨#[]⟩]] w fun e w' => e = .returned (.bool true) ∧ Kept (fun _ => False) w w' := by
  obtain ⟨gA, gA'⟩ := text_ne eA
  clear eA
  obtain ⟨gB, gB'⟩ := text_ne eB
  clear eB
  have hk0 : Kept (fun _ => False) w (((w.alloc (.cells #[.int .i64 n, .string v, .string r] 30)).alloc (.cells #[.int .i64 m, .string u, .string s] 30)).alloc (.cells #[.int .i64 k, .string q, .string ⟨#[]⟩] 30)) := (((Kept.refl _ _).alloc _).alloc _).alloc _
  have HK := Lib.hid hk0
  have bA := ((Box.made w 30 #[.int .i64 n, .string v, .string r]).after_alloc (.cells #[.int .i64 m, .string u, .string s] 30)).after_alloc (.cells #[.int .i64 k, .string q, .string ⟨#[]⟩] 30)
  have bB := (Box.made (w.alloc (.cells #[.int .i64 n, .string v, .string r] 30)) 30 #[.int .i64 m, .string u, .string s]).after_alloc (.cells #[.int .i64 k, .string q, .string ⟨#[]⟩] 30)
  have bC := Box.made ((w.alloc (.cells #[.int .i64 n, .string v, .string r] 30)).alloc (.cells #[.int .i64 m, .string u, .string s] 30)) 30 #[.int .i64 k, .string q, .string ⟨#[]⟩]
  rw [World.size_alloc] at bB
  rw [World.size_alloc, World.size_alloc] at bC
  have HA := Lib.hid bA
  have HB := Lib.hid bB
  have HC := Lib.hid bC
  clear hk0 bA bB bC
  go_enter Tryd.func6, Tryd.ntmps6
  go_wp2_with (first
    | (go_at_call 8; (first | (with_reducible refine (hW _ HK.out).mono ?_)); rintro e w5 ⟨rfl, hk5⟩; have HA := Lib.hid ((hk5).box HA.out (fun h => h)); have HB := Lib.hid ((hk5).box HB.out (fun h => h)); have HC := Lib.hid ((hk5).box HC.out (fun h => h)); have ax0 := HA.out.cell 0; have ax1 := HA.out.cell 1; have ax2 := HA.out.cell 2; have bx0 := HB.out.cell 0; have bx1 := HB.out.cell 1; have bx2 := HB.out.cell 2; have cx0 := HC.out.cell 0; have cx1 := HC.out.cell 1; have cx2 := HC.out.cell 2; have HK := Lib.hid (Kept.trans HK.out (hk5) (fun _ _ h => h)); clear hk5)
    | (go_at_call 15; (first | (with_reducible refine (hA _).mono ?_) | (with_reducible refine (hB _).mono ?_) | (with_reducible refine (hC _).mono ?_)); rintro e w5 ⟨rfl, hk5⟩; have HA := Lib.hid ((hk5).box HA.out (fun h => h)); have HB := Lib.hid ((hk5).box HB.out (fun h => h)); have HC := Lib.hid ((hk5).box HC.out (fun h => h)); have ax0 := HA.out.cell 0; have ax1 := HA.out.cell 1; have ax2 := HA.out.cell 2; have bx0 := HB.out.cell 0; have bx1 := HB.out.cell 1; have bx2 := HB.out.cell 2; have cx0 := HC.out.cell 0; have cx1 := HC.out.cell 1; have cx2 := HC.out.cell 2; have HK := Lib.hid (Kept.trans HK.out (hk5) (fun _ _ h => h)); clear hk5)
    | fail)
  obtain ⟨T, F, t0, ht0, hFk, hFs⟩ := class_of w5
  have fA := fun t => (hFk t).box HA.out (fun h => h)
  have qA0 : ∀ t, (F t).cell? ⟨w.heap.size, 0, none⟩ = some (.int .i64 n) := fun t => (fA t).cell 0
  have qA1 : ∀ t, (F t).cell? ⟨w.heap.size, 1, none⟩ = some (.string v) := fun t => (fA t).cell 1
  have qA2 : ∀ t, (F t).cell? ⟨w.heap.size, 2, none⟩ = some (.string r) := fun t => (fA t).cell 2
  have fB := fun t => (hFk t).box HB.out (fun h => h)
  have qB0 : ∀ t, (F t).cell? ⟨w.heap.size + 1, 0, none⟩ = some (.int .i64 m) := fun t => (fB t).cell 0
  have qB1 : ∀ t, (F t).cell? ⟨w.heap.size + 1, 1, none⟩ = some (.string u) := fun t => (fB t).cell 1
  have qB2 : ∀ t, (F t).cell? ⟨w.heap.size + 1, 2, none⟩ = some (.string s) := fun t => (fB t).cell 2
  have fC := fun t => (hFk t).box HC.out (fun h => h)
  have qC0 : ∀ t, (F t).cell? ⟨w.heap.size + 1 + 1, 0, none⟩ = some (.int .i64 k) := fun t => (fC t).cell 0
  have qC1 : ∀ t, (F t).cell? ⟨w.heap.size + 1 + 1, 1, none⟩ = some (.string q) := fun t => (fC t).cell 1
  have qC2 : ∀ t, (F t).cell? ⟨w.heap.size + 1 + 1, 2, none⟩ = some (.string ⟨#[]⟩) := fun t => (fC t).cell 2
  have HFK := Lib.hid hFk
  have HFS := Lib.hid hFs
  clear hFk hFs fA fB fC
  have hne : Nonempty T := ⟨t0⟩
  refine wp_region_class F t0 ht0 (by kernel_rfl) (by kernel_rfl) ?_
  repeat (go_big_quiet_step (first | (go_at_call 14; first | with_reducible exact class_call HFS.out (cAB _) | with_reducible exact class_call HFS.out (cBC _))))
  refine wpQuiet_nil ?_
  rintro _ ⟨tz, rfl⟩
  have HA := Lib.hid ((HFK.out tz).box HA.out (fun h => h))
  have HB := Lib.hid ((HFK.out tz).box HB.out (fun h => h))
  have HC := Lib.hid ((HFK.out tz).box HC.out (fun h => h))
  have HK := Lib.hid (Kept.trans HK.out (HFK.out tz) (fun _ _ h => h))
  go_wp2_with fail
  go_wp2_with (first
    | (go_at_call 14; (first | (with_reducible refine (cBA _).mono ?_) | (with_reducible refine (cAA _).mono ?_)); rintro e w5 ⟨rfl, hk5⟩; have HA := Lib.hid ((hk5).box HA.out (fun h => h)); have HB := Lib.hid ((hk5).box HB.out (fun h => h)); have HC := Lib.hid ((hk5).box HC.out (fun h => h)); have ax0 := HA.out.cell 0; have ax1 := HA.out.cell 1; have ax2 := HA.out.cell 2; have bx0 := HB.out.cell 0; have bx1 := HB.out.cell 1; have bx2 := HB.out.cell 2; have cx0 := HC.out.cell 0; have cx1 := HC.out.cell 1; have cx2 := HC.out.cell 2; have HK := Lib.hid (Kept.trans HK.out (hk5) (fun _ _ h => h)); clear hk5)
    | fail)
  all_goals go_ret
  all_goals exact ⟨rfl, HK.out⟩
set_option maxRecDepth 100000 in
set_option maxHeartbeats 2000000 in
theorem order_pC (n m k : Int) (v r u s q : ByteArray) (w : World) (y : Int) (hW : (∀ W : World, Kept (fun _ => False) w W → Calls Tryd.prog 8 #[] W fun e w' => e = .returned (.bool true) ∧ Kept (fun _ => False) W w')) (hA : (∀ W : World, Calls Tryd.prog 15 #[.agg #[.int .i64 n, .string v, .string r]] W fun e w' => e = .returned (.bool false) ∧ Kept (fun _ => False) W w')) (hB : (∀ W : World, Calls Tryd.prog 15 #[.agg #[.int .i64 m, .string u, .string s]] W fun e w' => e = .returned (.bool false) ∧ Kept (fun _ => False) W w')) (hC : (∀ W : World, Calls Tryd.prog 15 #[.agg #[.int .i64 k, .string q, .string ⟨#[]⟩]] W fun e w' => e = .returned (.bool false) ∧ Kept (fun _ => False) W w')) (cAB : (∀ W : World, Calls Tryd.prog 14 #[.agg #[.int .i64 n, .string v, .string r], .agg #[.int .i64 m, .string u, .string s]] W fun e w' => e = .returned (.int .i64 (1)) ∧ Kept (fun _ => False) W w')) (cBC : (∀ W : World, Calls Tryd.prog 14 #[.agg #[.int .i64 m, .string u, .string s], .agg #[.int .i64 k, .string q, .string ⟨#[]⟩]] W fun e w' => e = .returned (.int .i64 (y)) ∧ Kept (fun _ => False) W w')) (cBA : (∀ W : World, Calls Tryd.prog 14 #[.agg #[.int .i64 m, .string u, .string s], .agg #[.int .i64 n, .string v, .string r]] W fun e w' => e = .returned (.int .i64 (-1)) ∧ Kept (fun _ => False) W w')) (cAA : (∀ W : World, Calls Tryd.prog 14 #[.agg #[.int .i64 n, .string v, .string r], .agg #[.int .i64 n, .string v, .string r]] W fun e w' => e = .returned (.int .i64 (0)) ∧ Kept (fun _ => False) W w')) (eA : r ≠ ⟨#[]⟩) (eB : s ≠ ⟨#[]⟩) :
    Calls Tryd.prog 6 #[.agg #[.int .i64 n, .string v, .string r], .agg #[.int .i64 m, .string u, .string s], .agg #[.int .i64 k, .string q, .string ⟨#[]⟩]] w fun e w' => e = .returned (.bool true) ∧ Kept (fun _ => False) w w' := by
  obtain ⟨gA, gA'⟩ := text_ne eA
  clear eA
  obtain ⟨gB, gB'⟩ := text_ne eB
  clear eB
  have hk0 : Kept (fun _ => False) w (((w.alloc (.cells #[.int .i64 n, .string v, .string r] 30)).alloc (.cells #[.int .i64 m, .string u, .string s] 30)).alloc (.cells #[.int .i64 k, .string q, .string ⟨#[]⟩] 30)) := (((Kept.refl _ _).alloc _).alloc _).alloc _
  have HK := Lib.hid hk0
  have bA := ((Box.made w 30 #[.int .i64 n, .string v, .string r]).after_alloc (.cells #[.int .i64 m, .string u, .string s] 30)).after_alloc (.cells #[.int .i64 k, .string q, .string ⟨#[]⟩] 30)
  have bB := (Box.made (w.alloc (.cells #[.int .i64 n, .string v, .string r] 30)) 30 #[.int .i64 m, .string u, .string s]).after_alloc (.cells #[.int .i64 k, .string q, .string ⟨#[]⟩] 30)
  have bC := Box.made ((w.alloc (.cells #[.int .i64 n, .string v, .string r] 30)).alloc (.cells #[.int .i64 m, .string u, .string s] 30)) 30 #[.int .i64 k, .string q, .string ⟨#[]⟩]
  rw [World.size_alloc] at bB
  rw [World.size_alloc, World.size_alloc] at bC
  have HA := Lib.hid bA
  have HB := Lib.hid bB
  have HC := Lib.hid bC
  clear hk0 bA bB bC
  go_enter Tryd.func6, Tryd.ntmps6
  go_wp2_with (first
    | (go_at_call 8; (first | (with_reducible refine (hW _ HK.out).mono ?_)); rintro e w5 ⟨rfl, hk5⟩; have HA := Lib.hid ((hk5).box HA.out (fun h => h)); have HB := Lib.hid ((hk5).box HB.out (fun h => h)); have HC := Lib.hid ((hk5).box HC.out (fun h => h)); have ax0 := HA.out.cell 0; have ax1 := HA.out.cell 1; have ax2 := HA.out.cell 2; have bx0 := HB.out.cell 0; have bx1 := HB.out.cell 1; have bx2 := HB.out.cell 2; have cx0 := HC.out.cell 0; have cx1 := HC.out.cell 1; have cx2 := HC.out.cell 2; have HK := Lib.hid (Kept.trans HK.out (hk5) (fun _ _ h => h)); clear hk5)
    | (go_at_call 15; (first | (with_reducible refine (hA _).mono ?_) | (with_reducible refine (hB _).mono ?_) | (with_reducible refine (hC _).mono ?_)); rintro e w5 ⟨rfl, hk5⟩; have HA := Lib.hid ((hk5).box HA.out (fun h => h)); have HB := Lib.hid ((hk5).box HB.out (fun h => h)); have HC := Lib.hid ((hk5).box HC.out (fun h => h)); have ax0 := HA.out.cell 0; have ax1 := HA.out.cell 1; have ax2 := HA.out.cell 2; have bx0 := HB.out.cell 0; have bx1 := HB.out.cell 1; have bx2 := HB.out.cell 2; have cx0 := HC.out.cell 0; have cx1 := HC.out.cell 1; have cx2 := HC.out.cell 2; have HK := Lib.hid (Kept.trans HK.out (hk5) (fun _ _ h => h)); clear hk5)
    | fail)
  obtain ⟨T, F, t0, ht0, hFk, hFs⟩ := class_of w5
  have fA := fun t => (hFk t).box HA.out (fun h => h)
  have qA0 : ∀ t, (F t).cell? ⟨w.heap.size, 0, none⟩ = some (.int .i64 n) := fun t => (fA t).cell 0
  have qA1 : ∀ t, (F t).cell? ⟨w.heap.size, 1, none⟩ = some (.string v) := fun t => (fA t).cell 1
  have qA2 : ∀ t, (F t).cell? ⟨w.heap.size, 2, none⟩ = some (.string r) := fun t => (fA t).cell 2
  have fB := fun t => (hFk t).box HB.out (fun h => h)
  have qB0 : ∀ t, (F t).cell? ⟨w.heap.size + 1, 0, none⟩ = some (.int .i64 m) := fun t => (fB t).cell 0
  have qB1 : ∀ t, (F t).cell? ⟨w.heap.size + 1, 1, none⟩ = some (.string u) := fun t => (fB t).cell 1
  have qB2 : ∀ t, (F t).cell? ⟨w.heap.size + 1, 2, none⟩ = some (.string s) := fun t => (fB t).cell 2
  have fC := fun t => (hFk t).box HC.out (fun h => h)
  have qC0 : ∀ t, (F t).cell? ⟨w.heap.size + 1 + 1, 0, none⟩ = some (.int .i64 k) := fun t => (fC t).cell 0
  have qC1 : ∀ t, (F t).cell? ⟨w.heap.size + 1 + 1, 1, none⟩ = some (.string q) := fun t => (fC t).cell 1
  have qC2 : ∀ t, (F t).cell? ⟨w.heap.size + 1 + 1, 2, none⟩ = some (.string ⟨#[]⟩) := fun t => (fC t).cell 2
  have HFK := Lib.hid hFk
  have HFS := Lib.hid hFs
  clear hFk hFs fA fB fC
  have hne : Nonempty T := ⟨t0⟩
  refine wp_region_class F t0 ht0 (by kernel_rfl) (by kernel_rfl) ?_
  repeat (go_big_quiet_step (first | (go_at_call 14; first | with_reducible exact class_call HFS.out (cAB _) | with_reducible exact class_call HFS.out (cBC _))))
  refine wpQuiet_nil ?_
  rintro _ ⟨tz, rfl⟩
  have HA := Lib.hid ((HFK.out tz).box HA.out (fun h => h))
  have HB := Lib.hid ((HFK.out tz).box HB.out (fun h => h))
  have HC := Lib.hid ((HFK.out tz).box HC.out (fun h => h))
  have HK := Lib.hid (Kept.trans HK.out (HFK.out tz) (fun _ _ h => h))
  go_wp2_with fail
  go_wp2_with (first
    | (go_at_call 14; (first | (with_reducible refine (cBA _).mono ?_) | (with_reducible refine (cAA _).mono ?_)); rintro e w5 ⟨rfl, hk5⟩; have HA := Lib.hid ((hk5).box HA.out (fun h => h)); have HB := Lib.hid ((hk5).box HB.out (fun h => h)); have HC := Lib.hid ((hk5).box HC.out (fun h => h)); have ax0 := HA.out.cell 0; have ax1 := HA.out.cell 1; have ax2 := HA.out.cell 2; have bx0 := HB.out.cell 0; have bx1 := HB.out.cell 1; have bx2 := HB.out.cell 2; have cx0 := HC.out.cell 0; have cx1 := HC.out.cell 1; have cx2 := HC.out.cell 2; have HK := Lib.hid (Kept.trans HK.out (hk5) (fun _ _ h => h)); clear hk5)
    | fail)
  all_goals go_ret
  all_goals exact ⟨rfl, HK.out⟩
end Go.Proofs.YtgnmfpcjpfbjoaaDoor
