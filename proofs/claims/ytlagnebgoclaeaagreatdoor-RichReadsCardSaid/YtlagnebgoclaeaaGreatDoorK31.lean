/-
  The walks over the document's answer for layer 6: Of, Parse. Conditions: as each theorem states.
-/
import Derived.Test.YtlagnebgoclaeaaGreatDoorK21
import Derived.Test.YtlagnebgoclaeaaGreatDoorK30
import Derived.BigRegion
namespace Go.Proofs.YtlagnebgoclaeaaGreatDoor
open Go.RowKit Ver Evr Span Dep

set_option maxRecDepth 100000 in
set_option maxHeartbeats 2000000 in
theorem rof_none (ao : Option Addr) (k cp : Nat) (h1 : k ≠ 1) (h3 : k ≠ 3) (w : World) : Calls Tryz.prog 54 #[.slice ao k cp] w fun e w' => e = .returned (.tuple #[.agg #[.string ⟨#[]⟩, .int .u8 0, .int .i64 0, .string ⟨#[]⟩, .string ⟨#[]⟩], .int .i64 4]) ∧ Kept (fun _ => False) w w' := by
  have g1 : ((k : Int) != 1) = true := by simp; omega
  have g3 : ((k : Int) != 3) = true := by simp; omega
  go_enter Tryz.func54, Tryz.ntmps54
  go_wp2_with fail
  exact bodyPost_ret (dep_pair rfl _ _ w.heap.size _ _ _ _ _ _ rfl rfl (Box.made w _ _)) rfl ⟨rfl, (Kept.refl _ _).alloc _⟩
set_option maxRecDepth 100000 in
set_option maxHeartbeats 2000000 in
theorem rof_one_not (a : Addr) (cp : Nat) (x : ByteArray) (w : World) (h0 : w.cell? a = some (.string x)) (hlt : a.block < w.heap.size) (hM : ∀ W, Kept (fun _ => False) w W → Calls Tryz.prog 45 #[.agg #[.string x, .int .u8 0, .int .i64 0, .string ⟨#[]⟩, .string ⟨#[]⟩]] W fun e w' => e = .returned (.bool false) ∧ Kept (fun _ => False) W w') : Calls Tryz.prog 54 #[.slice (some a) 1 cp] w fun e w' => e = .returned (.tuple #[.agg #[.string ⟨#[]⟩, .int .u8 0, .int .i64 0, .string ⟨#[]⟩, .string ⟨#[]⟩], .int .i64 4]) ∧ Kept (fun _ => False) w w' := by
  have k0 : (w.alloc (.cells #[.string ⟨#[]⟩, .int .u8 0, .int .i64 0, .string ⟨#[]⟩, .string ⟨#[]⟩] 25)).cell? a = some (.string x) := (((Kept.refl (fun _ => False) w).alloc (.cells #[.string ⟨#[]⟩, .int .u8 0, .int .i64 0, .string ⟨#[]⟩, .string ⟨#[]⟩] 25)).cell hlt (fun h => h)).trans h0
  have hR0 := (Box.made w 25 #[.string ⟨#[]⟩, .int .u8 0, .int .i64 0, .string ⟨#[]⟩, .string ⟨#[]⟩]).after_alloc (.cells #[.string x, .int .u8 0, .int .i64 0, .string ⟨#[]⟩, .string ⟨#[]⟩] 25)
  have hD0 := Box.made (w.alloc (.cells #[.string ⟨#[]⟩, .int .u8 0, .int .i64 0, .string ⟨#[]⟩, .string ⟨#[]⟩] 25)) 25 #[.string x, .int .u8 0, .int .i64 0, .string ⟨#[]⟩, .string ⟨#[]⟩]
  rw [World.size_alloc] at hD0
  have hK0 := ((Kept.refl (fun _ => False) w).alloc (.cells #[.string ⟨#[]⟩, .int .u8 0, .int .i64 0, .string ⟨#[]⟩, .string ⟨#[]⟩] 25)).alloc (.cells #[.string x, .int .u8 0, .int .i64 0, .string ⟨#[]⟩, .string ⟨#[]⟩] 25)
  have HR := Lib.hid hR0
  have HD := Lib.hid hD0
  have HK := Lib.hid hK0
  have hne : w.heap.size ≠ w.heap.size + 1 := by omega
  have HNE := Lib.hid hne
  clear hR0 hD0 hK0 hne
  have d0 := HD.out.cell 0
  have d1 := HD.out.cell 1
  have d2 := HD.out.cell 2
  have d3 := HD.out.cell 3
  have d4 := HD.out.cell 4
  go_enter Tryz.func54, Tryz.ntmps54
  go_wp2_with (first
    | (go_at_call 45; (with_reducible refine (hM _ HK.out).mono ?_); rintro e w5 ⟨rfl, hk5⟩; have HR := Lib.hid (hk5.box HR.out (fun h => h)); have HD := Lib.hid (hk5.box HD.out (fun h => h)); have HK := Lib.hid (Kept.trans HK.out hk5 (fun _ _ h => h)); have r0 := HR.out.cell 0; have r1 := HR.out.cell 1; have r2 := HR.out.cell 2; have r3 := HR.out.cell 3; have r4 := HR.out.cell 4; have t0 := HR.out.free 0; have t1 := HR.out.free 1; have t2 := HR.out.free 2; have t3 := HR.out.free 3; have t4 := HR.out.free 4; have d0 := HD.out.cell 0; have d1 := HD.out.cell 1; have d2 := HD.out.cell 2; have d3 := HD.out.cell 3; have d4 := HD.out.cell 4; have f0 := HD.out.free 0; have f1 := HD.out.free 1; have f2 := HD.out.free 2; have f3 := HD.out.free 3; have f4 := HD.out.free 4; clear hk5)
    | fail)
  exact bodyPost_ret (dep_pair rfl _ _ w.heap.size _ _ _ _ _ _ rfl rfl (five_box HR.out _ _ _ _ _)) rfl ⟨rfl, five HK.out (Nat.le_refl _) _ _ _ _ _⟩
set_option maxRecDepth 100000 in
set_option maxHeartbeats 2000000 in
theorem rof_one_yes (a : Addr) (cp : Nat) (x : ByteArray) (w : World) (h0 : w.cell? a = some (.string x)) (hlt : a.block < w.heap.size) (hM : ∀ W, Kept (fun _ => False) w W → Calls Tryz.prog 45 #[.agg #[.string x, .int .u8 0, .int .i64 0, .string ⟨#[]⟩, .string ⟨#[]⟩]] W fun e w' => e = .returned (.bool true) ∧ Kept (fun _ => False) W w') : Calls Tryz.prog 54 #[.slice (some a) 1 cp] w fun e w' => e = .returned (.tuple #[.agg #[.string x, .int .u8 0, .int .i64 0, .string ⟨#[]⟩, .string ⟨#[]⟩], .int .i64 0]) ∧ Kept (fun _ => False) w w' := by
  have k0 : (w.alloc (.cells #[.string ⟨#[]⟩, .int .u8 0, .int .i64 0, .string ⟨#[]⟩, .string ⟨#[]⟩] 25)).cell? a = some (.string x) := (((Kept.refl (fun _ => False) w).alloc (.cells #[.string ⟨#[]⟩, .int .u8 0, .int .i64 0, .string ⟨#[]⟩, .string ⟨#[]⟩] 25)).cell hlt (fun h => h)).trans h0
  have hR0 := (Box.made w 25 #[.string ⟨#[]⟩, .int .u8 0, .int .i64 0, .string ⟨#[]⟩, .string ⟨#[]⟩]).after_alloc (.cells #[.string x, .int .u8 0, .int .i64 0, .string ⟨#[]⟩, .string ⟨#[]⟩] 25)
  have hD0 := Box.made (w.alloc (.cells #[.string ⟨#[]⟩, .int .u8 0, .int .i64 0, .string ⟨#[]⟩, .string ⟨#[]⟩] 25)) 25 #[.string x, .int .u8 0, .int .i64 0, .string ⟨#[]⟩, .string ⟨#[]⟩]
  rw [World.size_alloc] at hD0
  have hK0 := ((Kept.refl (fun _ => False) w).alloc (.cells #[.string ⟨#[]⟩, .int .u8 0, .int .i64 0, .string ⟨#[]⟩, .string ⟨#[]⟩] 25)).alloc (.cells #[.string x, .int .u8 0, .int .i64 0, .string ⟨#[]⟩, .string ⟨#[]⟩] 25)
  have HR := Lib.hid hR0
  have HD := Lib.hid hD0
  have HK := Lib.hid hK0
  have hne : w.heap.size ≠ w.heap.size + 1 := by omega
  have HNE := Lib.hid hne
  clear hR0 hD0 hK0 hne
  have d0 := HD.out.cell 0
  have d1 := HD.out.cell 1
  have d2 := HD.out.cell 2
  have d3 := HD.out.cell 3
  have d4 := HD.out.cell 4
  go_enter Tryz.func54, Tryz.ntmps54
  go_wp2_with (first
    | (go_at_call 45; (with_reducible refine (hM _ HK.out).mono ?_); rintro e w5 ⟨rfl, hk5⟩; have HR := Lib.hid (hk5.box HR.out (fun h => h)); have HD := Lib.hid (hk5.box HD.out (fun h => h)); have HK := Lib.hid (Kept.trans HK.out hk5 (fun _ _ h => h)); have r0 := HR.out.cell 0; have r1 := HR.out.cell 1; have r2 := HR.out.cell 2; have r3 := HR.out.cell 3; have r4 := HR.out.cell 4; have t0 := HR.out.free 0; have t1 := HR.out.free 1; have t2 := HR.out.free 2; have t3 := HR.out.free 3; have t4 := HR.out.free 4; have d0 := HD.out.cell 0; have d1 := HD.out.cell 1; have d2 := HD.out.cell 2; have d3 := HD.out.cell 3; have d4 := HD.out.cell 4; have f0 := HD.out.free 0; have f1 := HD.out.free 1; have f2 := HD.out.free 2; have f3 := HD.out.free 3; have f4 := HD.out.free 4; clear hk5)
    | fail)
  exact bodyPost_ret (dep_pair rfl _ _ w.heap.size _ _ _ _ _ _ rfl rfl (five_box HR.out _ _ _ _ _)) rfl ⟨rfl, five HK.out (Nat.le_refl _) _ _ _ _ _⟩
set_option maxRecDepth 100000 in
set_option maxHeartbeats 2000000 in
theorem rof_three_bad (a : Addr) (cp : Nat) (x y z : ByteArray) (op : Nat) (is : Bool) (n : Int) (v r : ByteArray) (er : Int) (w : World) (h0 : w.cell? a = some (.string x)) (h1 : w.cell? ⟨a.block, a.off + 1, none⟩ = some (.string y)) (h2 : w.cell? ⟨a.block, a.off + 2, none⟩ = some (.string z)) (hlt : a.block < w.heap.size) (hS : ∀ W, Kept (fun _ => False) w W → Calls Tryz.prog 53 #[.string y] W fun e w' => e = .returned (.tuple #[.int .u8 (op : Int), .bool is]) ∧ Kept (fun _ => False) W w') (hE : ∀ W, Kept (fun _ => False) w W → Calls Tryz.prog 75 #[.string z] W fun e w' => e = .returned (.tuple #[.agg #[.int .i64 n, .string v, .string r], .int .i64 er]) ∧ Kept (fun _ => False) W w') (hb : is = false ∨ (is = true ∧ ((op : Int) == 0) = true) ∨ (is = true ∧ ((op : Int) == 0) = false ∧ (er != 0) = true)) : Calls Tryz.prog 54 #[.slice (some a) 3 cp] w fun e w' => e = .returned (.tuple #[.agg #[.string ⟨#[]⟩, .int .u8 0, .int .i64 0, .string ⟨#[]⟩, .string ⟨#[]⟩], .int .i64 4]) ∧ Kept (fun _ => False) w w' := by
  have HX : Hid (∀ W, Kept (fun _ => False) w W → W.cell? a = some (.string x) ∧ W.cell? ⟨a.block, a.off + 1, none⟩ = some (.string y) ∧ W.cell? ⟨a.block, a.off + 2, none⟩ = some (.string z)) := Lib.hid (fun W hk => ⟨(hk.cell hlt (fun h => h)).trans h0, (hk.cell (p := ⟨a.block, a.off + 1, none⟩) hlt (fun h => h)).trans h1, (hk.cell (p := ⟨a.block, a.off + 2, none⟩) hlt (fun h => h)).trans h2⟩)
  obtain ⟨kz0, _, _⟩ := HX.out _ ((Kept.refl (fun _ => False) w).alloc (.cells #[.string ⟨#[]⟩, .int .u8 0, .int .i64 0, .string ⟨#[]⟩, .string ⟨#[]⟩] 25))
  clear h0 h1 h2
  have hR0 := (Box.made w 25 #[.string ⟨#[]⟩, .int .u8 0, .int .i64 0, .string ⟨#[]⟩, .string ⟨#[]⟩]).after_alloc (.cells #[.string x, .int .u8 0, .int .i64 0, .string ⟨#[]⟩, .string ⟨#[]⟩] 25)
  have hD0 := Box.made (w.alloc (.cells #[.string ⟨#[]⟩, .int .u8 0, .int .i64 0, .string ⟨#[]⟩, .string ⟨#[]⟩] 25)) 25 #[.string x, .int .u8 0, .int .i64 0, .string ⟨#[]⟩, .string ⟨#[]⟩]
  rw [World.size_alloc] at hD0
  have hK0 := ((Kept.refl (fun _ => False) w).alloc (.cells #[.string ⟨#[]⟩, .int .u8 0, .int .i64 0, .string ⟨#[]⟩, .string ⟨#[]⟩] 25)).alloc (.cells #[.string x, .int .u8 0, .int .i64 0, .string ⟨#[]⟩, .string ⟨#[]⟩] 25)
  have HR := Lib.hid hR0
  have HD := Lib.hid hD0
  have HK := Lib.hid hK0
  have hne : w.heap.size ≠ w.heap.size + 1 := by omega
  have HNE := Lib.hid hne
  clear hR0 hD0 hK0 hne
  rcases hb with rfl | ⟨rfl, hb⟩ | ⟨rfl, hb, hb2⟩
  all_goals
    go_enter Tryz.func54, Tryz.ntmps54
    obtain ⟨k0, k1, k2⟩ := HX.out _ HK.out
    go_wp2_with (first
      | (go_at_call 53; (with_reducible refine (hS _ HK.out).mono ?_); rintro e w5 ⟨rfl, hk5⟩; have HR := Lib.hid (hk5.box HR.out (fun h => h)); have HD := Lib.hid (hk5.box HD.out (fun h => h)); have HK := Lib.hid (Kept.trans HK.out hk5 (fun _ _ h => h)); have r0 := HR.out.cell 0; have r1 := HR.out.cell 1; have r2 := HR.out.cell 2; have r3 := HR.out.cell 3; have r4 := HR.out.cell 4; have t0 := HR.out.free 0; have t1 := HR.out.free 1; have t2 := HR.out.free 2; have t3 := HR.out.free 3; have t4 := HR.out.free 4; have d0 := HD.out.cell 0; have d1 := HD.out.cell 1; have d2 := HD.out.cell 2; have d3 := HD.out.cell 3; have d4 := HD.out.cell 4; have f0 := HD.out.free 0; have f1 := HD.out.free 1; have f2 := HD.out.free 2; have f3 := HD.out.free 3; have f4 := HD.out.free 4; clear hk5; obtain ⟨k0, k1, k2⟩ := HX.out _ HK.out)
      | (go_at_call 75; (with_reducible refine (hE _ HK.out).mono ?_); rintro e w6 ⟨rfl, hk6⟩; have HR := Lib.hid (hk6.box HR.out (fun h => h)); have HD := Lib.hid (hk6.box HD.out (fun h => h)); have HK := Lib.hid (Kept.trans HK.out hk6 (fun _ _ h => h)); have r0 := HR.out.cell 0; have r1 := HR.out.cell 1; have r2 := HR.out.cell 2; have r3 := HR.out.cell 3; have r4 := HR.out.cell 4; have t0 := HR.out.free 0; have t1 := HR.out.free 1; have t2 := HR.out.free 2; have t3 := HR.out.free 3; have t4 := HR.out.free 4; have d0 := HD.out.cell 0; have d1 := HD.out.cell 1; have d2 := HD.out.cell 2; have d3 := HD.out.cell 3; have d4 := HD.out.cell 4; have f0 := HD.out.free 0; have f1 := HD.out.free 1; have f2 := HD.out.free 2; have f3 := HD.out.free 3; have f4 := HD.out.free 4; clear hk6; refine Hid.out ?_)
      | fail)
    refine Lib.hid ?_
    have hE2 := Box.made w6 23 #[.int .i64 n, .string v, .string r]
    have hR2 := HR.out.after_alloc (.cells #[.int .i64 n, .string v, .string r] 23)
    have hD2 := HD.out.after_alloc (.cells #[.int .i64 n, .string v, .string r] 23)
    have hK2 := HK.out.alloc (.cells #[.int .i64 n, .string v, .string r] 23)
    have HR := Lib.hid hR2
    have r0 := HR.out.cell 0
    have r1 := HR.out.cell 1
    have r2 := HR.out.cell 2
    have r3 := HR.out.cell 3
    have r4 := HR.out.cell 4
    have t0 := HR.out.free 0
    have t1 := HR.out.free 1
    have t2 := HR.out.free 2
    have t3 := HR.out.free 3
    have t4 := HR.out.free 4
    go_wp2_with fail
    exact bodyPost_ret (dep_pair rfl _ _ w.heap.size _ _ _ _ _ _ rfl rfl (five_box HR.out _ _ _ _ _)) rfl ⟨rfl, five hK2 (Nat.le_refl _) _ _ _ _ _⟩
set_option maxRecDepth 100000 in
set_option maxHeartbeats 2000000 in
theorem rof_three_not (a : Addr) (cp : Nat) (x y z : ByteArray) (op : Nat) (is : Bool) (n : Int) (v r : ByteArray) (er : Int) (w : World) (h0 : w.cell? a = some (.string x)) (h1 : w.cell? ⟨a.block, a.off + 1, none⟩ = some (.string y)) (h2 : w.cell? ⟨a.block, a.off + 2, none⟩ = some (.string z)) (hlt : a.block < w.heap.size) (hS : ∀ W, Kept (fun _ => False) w W → Calls Tryz.prog 53 #[.string y] W fun e w' => e = .returned (.tuple #[.int .u8 (op : Int), .bool is]) ∧ Kept (fun _ => False) W w') (hE : ∀ W, Kept (fun _ => False) w W → Calls Tryz.prog 75 #[.string z] W fun e w' => e = .returned (.tuple #[.agg #[.int .i64 n, .string v, .string r], .int .i64 er]) ∧ Kept (fun _ => False) W w') (e1 : is = true) (e2 : ((op : Int) == 0) = false) (e3 : (er != 0) = false) (hM : ∀ W, Kept (fun _ => False) w W → Calls Tryz.prog 45 #[.agg #[.string x, .int .u8 (op : Int), .int .i64 n, .string v, .string r]] W fun e w' => e = .returned (.bool false) ∧ Kept (fun _ => False) W w') : Calls Tryz.prog 54 #[.slice (some a) 3 cp] w fun e w' => e = .returned (.tuple #[.agg #[.string ⟨#[]⟩, .int .u8 0, .int .i64 0, .string ⟨#[]⟩, .string ⟨#[]⟩], .int .i64 4]) ∧ Kept (fun _ => False) w w' := by
  subst e1
  have HX : Hid (∀ W, Kept (fun _ => False) w W → W.cell? a = some (.string x) ∧ W.cell? ⟨a.block, a.off + 1, none⟩ = some (.string y) ∧ W.cell? ⟨a.block, a.off + 2, none⟩ = some (.string z)) := Lib.hid (fun W hk => ⟨(hk.cell hlt (fun h => h)).trans h0, (hk.cell (p := ⟨a.block, a.off + 1, none⟩) hlt (fun h => h)).trans h1, (hk.cell (p := ⟨a.block, a.off + 2, none⟩) hlt (fun h => h)).trans h2⟩)
  obtain ⟨kz0, _, _⟩ := HX.out _ ((Kept.refl (fun _ => False) w).alloc (.cells #[.string ⟨#[]⟩, .int .u8 0, .int .i64 0, .string ⟨#[]⟩, .string ⟨#[]⟩] 25))
  clear h0 h1 h2
  have hR0 := (Box.made w 25 #[.string ⟨#[]⟩, .int .u8 0, .int .i64 0, .string ⟨#[]⟩, .string ⟨#[]⟩]).after_alloc (.cells #[.string x, .int .u8 0, .int .i64 0, .string ⟨#[]⟩, .string ⟨#[]⟩] 25)
  have hD0 := Box.made (w.alloc (.cells #[.string ⟨#[]⟩, .int .u8 0, .int .i64 0, .string ⟨#[]⟩, .string ⟨#[]⟩] 25)) 25 #[.string x, .int .u8 0, .int .i64 0, .string ⟨#[]⟩, .string ⟨#[]⟩]
  rw [World.size_alloc] at hD0
  have hK0 := ((Kept.refl (fun _ => False) w).alloc (.cells #[.string ⟨#[]⟩, .int .u8 0, .int .i64 0, .string ⟨#[]⟩, .string ⟨#[]⟩] 25)).alloc (.cells #[.string x, .int .u8 0, .int .i64 0, .string ⟨#[]⟩, .string ⟨#[]⟩] 25)
  have HR := Lib.hid hR0
  have HD := Lib.hid hD0
  have HK := Lib.hid hK0
  have hne : w.heap.size ≠ w.heap.size + 1 := by omega
  have HNE := Lib.hid hne
  clear hR0 hD0 hK0 hne
  go_enter Tryz.func54, Tryz.ntmps54
  obtain ⟨k0, k1, k2⟩ := HX.out _ HK.out
  go_wp2_with (first
    | (go_at_call 53; (with_reducible refine (hS _ HK.out).mono ?_); rintro e w5 ⟨rfl, hk5⟩; have HR := Lib.hid (hk5.box HR.out (fun h => h)); have HD := Lib.hid (hk5.box HD.out (fun h => h)); have HK := Lib.hid (Kept.trans HK.out hk5 (fun _ _ h => h)); have r0 := HR.out.cell 0; have r1 := HR.out.cell 1; have r2 := HR.out.cell 2; have r3 := HR.out.cell 3; have r4 := HR.out.cell 4; have t0 := HR.out.free 0; have t1 := HR.out.free 1; have t2 := HR.out.free 2; have t3 := HR.out.free 3; have t4 := HR.out.free 4; have d0 := HD.out.cell 0; have d1 := HD.out.cell 1; have d2 := HD.out.cell 2; have d3 := HD.out.cell 3; have d4 := HD.out.cell 4; have f0 := HD.out.free 0; have f1 := HD.out.free 1; have f2 := HD.out.free 2; have f3 := HD.out.free 3; have f4 := HD.out.free 4; clear hk5; obtain ⟨k0, k1, k2⟩ := HX.out _ HK.out)
    | (go_at_call 75; (with_reducible refine (hE _ HK.out).mono ?_); rintro e w6 ⟨rfl, hk6⟩; have HR := Lib.hid (hk6.box HR.out (fun h => h)); have HD := Lib.hid (hk6.box HD.out (fun h => h)); have HK := Lib.hid (Kept.trans HK.out hk6 (fun _ _ h => h)); have r0 := HR.out.cell 0; have r1 := HR.out.cell 1; have r2 := HR.out.cell 2; have r3 := HR.out.cell 3; have r4 := HR.out.cell 4; have t0 := HR.out.free 0; have t1 := HR.out.free 1; have t2 := HR.out.free 2; have t3 := HR.out.free 3; have t4 := HR.out.free 4; have d0 := HD.out.cell 0; have d1 := HD.out.cell 1; have d2 := HD.out.cell 2; have d3 := HD.out.cell 3; have d4 := HD.out.cell 4; have f0 := HD.out.free 0; have f1 := HD.out.free 1; have f2 := HD.out.free 2; have f3 := HD.out.free 3; have f4 := HD.out.free 4; clear hk6; refine Hid.out ?_)
    | fail)
  refine Lib.hid ?_
  have hE2 := Box.made w6 23 #[.int .i64 n, .string v, .string r]
  have hR2 := HR.out.after_alloc (.cells #[.int .i64 n, .string v, .string r] 23)
  have hD2 := HD.out.after_alloc (.cells #[.int .i64 n, .string v, .string r] 23)
  have hK2 := HK.out.alloc (.cells #[.int .i64 n, .string v, .string r] 23)
  go_wp2_with fail
  generalize w6.alloc (.cells #[.int .i64 n, .string v, .string r] 23) = W7 at hE2 hR2 hD2 hK2 ⊢
  have HE := Lib.hid hE2
  have HR := Lib.hid hR2
  have HD := Lib.hid hD2
  have HK := Lib.hid hK2
  clear hE2 hR2 hD2 hK2
  have e0 := HE.out.cell 0
  have e1 := HE.out.cell 1
  have e2' := HE.out.cell 2
  have d0 := HD.out.cell 0
  have d1 := HD.out.cell 1
  have d2 := HD.out.cell 2
  have d3 := HD.out.cell 3
  have d4 := HD.out.cell 4
  have f1 := HD.out.free 1
  have f2 := HD.out.free 2
  have f3 := HD.out.free 3
  have f4 := HD.out.free 4
  have hq : w6.heap.size ≠ w.heap.size + 1 := fun h => by
    have := HE.out.apart HD.out (by decide)
    exact this h
  go_region
  all_goals first
    | (have hD9 : Box ((((W7.setCell ⟨w.heap.size + 1, 1, none⟩ (.int .u8 (op : Int))).setCell ⟨w.heap.size + 1, 2, none⟩ (.int .i64 n)).setCell ⟨w.heap.size + 1, 3, none⟩ (.string v)).setCell ⟨w.heap.size + 1, 4, none⟩ (.string r)) (w.heap.size + 1) 25 #[.string x, .int .u8 (op : Int), .int .i64 n, .string v, .string r] := ((((HD.out.stored 1 _).stored 2 _).stored 3 _).stored 4 _); have hR9 : Box ((((W7.setCell ⟨w.heap.size + 1, 1, none⟩ (.int .u8 (op : Int))).setCell ⟨w.heap.size + 1, 2, none⟩ (.int .i64 n)).setCell ⟨w.heap.size + 1, 3, none⟩ (.string v)).setCell ⟨w.heap.size + 1, 4, none⟩ (.string r)) w.heap.size 25 #[.string ⟨#[]⟩, .int .u8 0, .int .i64 0, .string ⟨#[]⟩, .string ⟨#[]⟩] := (box_off (box_off (box_off (box_off HR.out ⟨w.heap.size + 1, 1, none⟩ HNE.out (.int .u8 (op : Int))) ⟨w.heap.size + 1, 2, none⟩ HNE.out (.int .i64 n)) ⟨w.heap.size + 1, 3, none⟩ HNE.out (.string v)) ⟨w.heap.size + 1, 4, none⟩ HNE.out (.string r)); have hK9 : Kept (fun _ => False) w ((((W7.setCell ⟨w.heap.size + 1, 1, none⟩ (.int .u8 (op : Int))).setCell ⟨w.heap.size + 1, 2, none⟩ (.int .i64 n)).setCell ⟨w.heap.size + 1, 3, none⟩ (.string v)).setCell ⟨w.heap.size + 1, 4, none⟩ (.string r)) := ((((HK.out.setCell (p := ⟨w.heap.size + 1, 1, none⟩) (.inr (Nat.le_succ _)) (.int .u8 (op : Int))).setCell (p := ⟨w.heap.size + 1, 2, none⟩) (.inr (Nat.le_succ _)) (.int .i64 n)).setCell (p := ⟨w.heap.size + 1, 3, none⟩) (.inr (Nat.le_succ _)) (.string v)).setCell (p := ⟨w.heap.size + 1, 4, none⟩) (.inr (Nat.le_succ _)) (.string r)); generalize ((((W7.setCell ⟨w.heap.size + 1, 1, none⟩ (.int .u8 (op : Int))).setCell ⟨w.heap.size + 1, 2, none⟩ (.int .i64 n)).setCell ⟨w.heap.size + 1, 3, none⟩ (.string v)).setCell ⟨w.heap.size + 1, 4, none⟩ (.string r)) = W9 at hD9 hR9 hK9 ⊢)
    | (have hD9 : Box ((((W7.setCell ⟨w.heap.size + 1, 2, none⟩ (.int .i64 n)).setCell ⟨w.heap.size + 1, 3, none⟩ (.string v)).setCell ⟨w.heap.size + 1, 4, none⟩ (.string r)).setCell ⟨w.heap.size + 1, 1, none⟩ (.int .u8 (op : Int))) (w.heap.size + 1) 25 #[.string x, .int .u8 (op : Int), .int .i64 n, .string v, .string r] := ((((HD.out.stored 2 _).stored 3 _).stored 4 _).stored 1 _); have hR9 : Box ((((W7.setCell ⟨w.heap.size + 1, 2, none⟩ (.int .i64 n)).setCell ⟨w.heap.size + 1, 3, none⟩ (.string v)).setCell ⟨w.heap.size + 1, 4, none⟩ (.string r)).setCell ⟨w.heap.size + 1, 1, none⟩ (.int .u8 (op : Int))) w.heap.size 25 #[.string ⟨#[]⟩, .int .u8 0, .int .i64 0, .string ⟨#[]⟩, .string ⟨#[]⟩] := (box_off (box_off (box_off (box_off HR.out ⟨w.heap.size + 1, 2, none⟩ HNE.out (.int .i64 n)) ⟨w.heap.size + 1, 3, none⟩ HNE.out (.string v)) ⟨w.heap.size + 1, 4, none⟩ HNE.out (.string r)) ⟨w.heap.size + 1, 1, none⟩ HNE.out (.int .u8 (op : Int))); have hK9 : Kept (fun _ => False) w ((((W7.setCell ⟨w.heap.size + 1, 2, none⟩ (.int .i64 n)).setCell ⟨w.heap.size + 1, 3, none⟩ (.string v)).setCell ⟨w.heap.size + 1, 4, none⟩ (.string r)).setCell ⟨w.heap.size + 1, 1, none⟩ (.int .u8 (op : Int))) := ((((HK.out.setCell (p := ⟨w.heap.size + 1, 2, none⟩) (.inr (Nat.le_succ _)) (.int .i64 n)).setCell (p := ⟨w.heap.size + 1, 3, none⟩) (.inr (Nat.le_succ _)) (.string v)).setCell (p := ⟨w.heap.size + 1, 4, none⟩) (.inr (Nat.le_succ _)) (.string r)).setCell (p := ⟨w.heap.size + 1, 1, none⟩) (.inr (Nat.le_succ _)) (.int .u8 (op : Int))); generalize ((((W7.setCell ⟨w.heap.size + 1, 2, none⟩ (.int .i64 n)).setCell ⟨w.heap.size + 1, 3, none⟩ (.string v)).setCell ⟨w.heap.size + 1, 4, none⟩ (.string r)).setCell ⟨w.heap.size + 1, 1, none⟩ (.int .u8 (op : Int))) = W9 at hD9 hR9 hK9 ⊢)
  all_goals
    have HR := Lib.hid hR9
    have HD := Lib.hid hD9
    have HK := Lib.hid hK9
    clear hR9 hD9 hK9
    have HK := Lib.hid (HK.out.drew)
    have HR := Lib.hid (show Box (World.drew _) w.heap.size 25 #[.string ⟨#[]⟩, .int .u8 0, .int .i64 0, .string ⟨#[]⟩, .string ⟨#[]⟩] from HR.out)
    have HD := Lib.hid (show Box (World.drew _) (w.heap.size + 1) 25 #[.string x, .int .u8 (op : Int), .int .i64 n, .string v, .string r] from HD.out)
    have d0 := HD.out.cell 0
    have d1 := HD.out.cell 1
    have d2 := HD.out.cell 2
    have d3 := HD.out.cell 3
    have d4 := HD.out.cell 4
    go_wp2_with (first
      | (go_at_call 45; (with_reducible refine (hM _ HK.out).mono ?_); rintro e w8 ⟨rfl, hk8⟩; have HR := Lib.hid (hk8.box HR.out (fun h => h)); have HD := Lib.hid (hk8.box HD.out (fun h => h)); have HK := Lib.hid (Kept.trans HK.out hk8 (fun _ _ h => h)); have r0 := HR.out.cell 0; have r1 := HR.out.cell 1; have r2 := HR.out.cell 2; have r3 := HR.out.cell 3; have r4 := HR.out.cell 4; have t0 := HR.out.free 0; have t1 := HR.out.free 1; have t2 := HR.out.free 2; have t3 := HR.out.free 3; have t4 := HR.out.free 4; have d0 := HD.out.cell 0; have d1 := HD.out.cell 1; have d2 := HD.out.cell 2; have d3 := HD.out.cell 3; have d4 := HD.out.cell 4; have f0 := HD.out.free 0; have f1 := HD.out.free 1; have f2 := HD.out.free 2; have f3 := HD.out.free 3; have f4 := HD.out.free 4; clear hk8)
      | fail)
    exact bodyPost_ret (dep_pair rfl _ _ w.heap.size _ _ _ _ _ _ rfl rfl (five_box HR.out _ _ _ _ _)) rfl ⟨rfl, five HK.out (Nat.le_refl _) _ _ _ _ _⟩
set_option maxRecDepth 100000 in
set_option maxHeartbeats 2000000 in
theorem rof_three_yes (a : Addr) (cp : Nat) (x y z : ByteArray) (op : Nat) (is : Bool) (n : Int) (v r : ByteArray) (er : Int) (w : World) (h0 : w.cell? a = some (.string x)) (h1 : w.cell? ⟨a.block, a.off + 1, none⟩ = some (.string y)) (h2 : w.cell? ⟨a.block, a.off + 2, none⟩ = some (.string z)) (hlt : a.block < w.heap.size) (hS : ∀ W, Kept (fun _ => False) w W → Calls Tryz.prog 53 #[.string y] W fun e w' => e = .returned (.tuple #[.int .u8 (op : Int), .bool is]) ∧ Kept (fun _ => False) W w') (hE : ∀ W, Kept (fun _ => False) w W → Calls Tryz.prog 75 #[.string z] W fun e w' => e = .returned (.tuple #[.agg #[.int .i64 n, .string v, .string r], .int .i64 er]) ∧ Kept (fun _ => False) W w') (e1 : is = true) (e2 : ((op : Int) == 0) = false) (e3 : (er != 0) = false) (hM : ∀ W, Kept (fun _ => False) w W → Calls Tryz.prog 45 #[.agg #[.string x, .int .u8 (op : Int), .int .i64 n, .string v, .string r]] W fun e w' => e = .returned (.bool true) ∧ Kept (fun _ => False) W w') : Calls Tryz.prog 54 #[.slice (some a) 3 cp] w fun e w' => e = .returned (.tuple #[.agg #[.string x, .int .u8 (op : Int), .int .i64 n, .string v, .string r], .int .i64 0]) ∧ Kept (fun _ => False) w w' := by
  subst e1
  have HX : Hid (∀ W, Kept (fun _ => False) w W → W.cell? a = some (.string x) ∧ W.cell? ⟨a.block, a.off + 1, none⟩ = some (.string y) ∧ W.cell? ⟨a.block, a.off + 2, none⟩ = some (.string z)) := Lib.hid (fun W hk => ⟨(hk.cell hlt (fun h => h)).trans h0, (hk.cell (p := ⟨a.block, a.off + 1, none⟩) hlt (fun h => h)).trans h1, (hk.cell (p := ⟨a.block, a.off + 2, none⟩) hlt (fun h => h)).trans h2⟩)
  obtain ⟨kz0, _, _⟩ := HX.out _ ((Kept.refl (fun _ => False) w).alloc (.cells #[.string ⟨#[]⟩, .int .u8 0, .int .i64 0, .string ⟨#[]⟩, .string ⟨#[]⟩] 25))
  clear h0 h1 h2
  have hR0 := (Box.made w 25 #[.string ⟨#[]⟩, .int .u8 0, .int .i64 0, .string ⟨#[]⟩, .string ⟨#[]⟩]).after_alloc (.cells #[.string x, .int .u8 0, .int .i64 0, .string ⟨#[]⟩, .string ⟨#[]⟩] 25)
  have hD0 := Box.made (w.alloc (.cells #[.string ⟨#[]⟩, .int .u8 0, .int .i64 0, .string ⟨#[]⟩, .string ⟨#[]⟩] 25)) 25 #[.string x, .int .u8 0, .int .i64 0, .string ⟨#[]⟩, .string ⟨#[]⟩]
  rw [World.size_alloc] at hD0
  have hK0 := ((Kept.refl (fun _ => False) w).alloc (.cells #[.string ⟨#[]⟩, .int .u8 0, .int .i64 0, .string ⟨#[]⟩, .string ⟨#[]⟩] 25)).alloc (.cells #[.string x, .int .u8 0, .int .i64 0, .string ⟨#[]⟩, .string ⟨#[]⟩] 25)
  have HR := Lib.hid hR0
  have HD := Lib.hid hD0
  have HK := Lib.hid hK0
  have hne : w.heap.size ≠ w.heap.size + 1 := by omega
  have HNE := Lib.hid hne
  clear hR0 hD0 hK0 hne
  go_enter Tryz.func54, Tryz.ntmps54
  obtain ⟨k0, k1, k2⟩ := HX.out _ HK.out
  go_wp2_with (first
    | (go_at_call 53; (with_reducible refine (hS _ HK.out).mono ?_); rintro e w5 ⟨rfl, hk5⟩; have HR := Lib.hid (hk5.box HR.out (fun h => h)); have HD := Lib.hid (hk5.box HD.out (fun h => h)); have HK := Lib.hid (Kept.trans HK.out hk5 (fun _ _ h => h)); have r0 := HR.out.cell 0; have r1 := HR.out.cell 1; have r2 := HR.out.cell 2; have r3 := HR.out.cell 3; have r4 := HR.out.cell 4; have t0 := HR.out.free 0; have t1 := HR.out.free 1; have t2 := HR.out.free 2; have t3 := HR.out.free 3; have t4 := HR.out.free 4; have d0 := HD.out.cell 0; have d1 := HD.out.cell 1; have d2 := HD.out.cell 2; have d3 := HD.out.cell 3; have d4 := HD.out.cell 4; have f0 := HD.out.free 0; have f1 := HD.out.free 1; have f2 := HD.out.free 2; have f3 := HD.out.free 3; have f4 := HD.out.free 4; clear hk5; obtain ⟨k0, k1, k2⟩ := HX.out _ HK.out)
    | (go_at_call 75; (with_reducible refine (hE _ HK.out).mono ?_); rintro e w6 ⟨rfl, hk6⟩; have HR := Lib.hid (hk6.box HR.out (fun h => h)); have HD := Lib.hid (hk6.box HD.out (fun h => h)); have HK := Lib.hid (Kept.trans HK.out hk6 (fun _ _ h => h)); have r0 := HR.out.cell 0; have r1 := HR.out.cell 1; have r2 := HR.out.cell 2; have r3 := HR.out.cell 3; have r4 := HR.out.cell 4; have t0 := HR.out.free 0; have t1 := HR.out.free 1; have t2 := HR.out.free 2; have t3 := HR.out.free 3; have t4 := HR.out.free 4; have d0 := HD.out.cell 0; have d1 := HD.out.cell 1; have d2 := HD.out.cell 2; have d3 := HD.out.cell 3; have d4 := HD.out.cell 4; have f0 := HD.out.free 0; have f1 := HD.out.free 1; have f2 := HD.out.free 2; have f3 := HD.out.free 3; have f4 := HD.out.free 4; clear hk6; refine Hid.out ?_)
    | fail)
  refine Lib.hid ?_
  have hE2 := Box.made w6 23 #[.int .i64 n, .string v, .string r]
  have hR2 := HR.out.after_alloc (.cells #[.int .i64 n, .string v, .string r] 23)
  have hD2 := HD.out.after_alloc (.cells #[.int .i64 n, .string v, .string r] 23)
  have hK2 := HK.out.alloc (.cells #[.int .i64 n, .string v, .string r] 23)
  go_wp2_with fail
  generalize w6.alloc (.cells #[.int .i64 n, .string v, .string r] 23) = W7 at hE2 hR2 hD2 hK2 ⊢
  have HE := Lib.hid hE2
  have HR := Lib.hid hR2
  have HD := Lib.hid hD2
  have HK := Lib.hid hK2
  clear hE2 hR2 hD2 hK2
  have e0 := HE.out.cell 0
  have e1 := HE.out.cell 1
  have e2' := HE.out.cell 2
  have d0 := HD.out.cell 0
  have d1 := HD.out.cell 1
  have d2 := HD.out.cell 2
  have d3 := HD.out.cell 3
  have d4 := HD.out.cell 4
  have f1 := HD.out.free 1
  have f2 := HD.out.free 2
  have f3 := HD.out.free 3
  have f4 := HD.out.free 4
  have hq : w6.heap.size ≠ w.heap.size + 1 := fun h => by
    have := HE.out.apart HD.out (by decide)
    exact this h
  go_region
  all_goals first
    | (have hD9 : Box ((((W7.setCell ⟨w.heap.size + 1, 1, none⟩ (.int .u8 (op : Int))).setCell ⟨w.heap.size + 1, 2, none⟩ (.int .i64 n)).setCell ⟨w.heap.size + 1, 3, none⟩ (.string v)).setCell ⟨w.heap.size + 1, 4, none⟩ (.string r)) (w.heap.size + 1) 25 #[.string x, .int .u8 (op : Int), .int .i64 n, .string v, .string r] := ((((HD.out.stored 1 _).stored 2 _).stored 3 _).stored 4 _); have hR9 : Box ((((W7.setCell ⟨w.heap.size + 1, 1, none⟩ (.int .u8 (op : Int))).setCell ⟨w.heap.size + 1, 2, none⟩ (.int .i64 n)).setCell ⟨w.heap.size + 1, 3, none⟩ (.string v)).setCell ⟨w.heap.size + 1, 4, none⟩ (.string r)) w.heap.size 25 #[.string ⟨#[]⟩, .int .u8 0, .int .i64 0, .string ⟨#[]⟩, .string ⟨#[]⟩] := (box_off (box_off (box_off (box_off HR.out ⟨w.heap.size + 1, 1, none⟩ HNE.out (.int .u8 (op : Int))) ⟨w.heap.size + 1, 2, none⟩ HNE.out (.int .i64 n)) ⟨w.heap.size + 1, 3, none⟩ HNE.out (.string v)) ⟨w.heap.size + 1, 4, none⟩ HNE.out (.string r)); have hK9 : Kept (fun _ => False) w ((((W7.setCell ⟨w.heap.size + 1, 1, none⟩ (.int .u8 (op : Int))).setCell ⟨w.heap.size + 1, 2, none⟩ (.int .i64 n)).setCell ⟨w.heap.size + 1, 3, none⟩ (.string v)).setCell ⟨w.heap.size + 1, 4, none⟩ (.string r)) := ((((HK.out.setCell (p := ⟨w.heap.size + 1, 1, none⟩) (.inr (Nat.le_succ _)) (.int .u8 (op : Int))).setCell (p := ⟨w.heap.size + 1, 2, none⟩) (.inr (Nat.le_succ _)) (.int .i64 n)).setCell (p := ⟨w.heap.size + 1, 3, none⟩) (.inr (Nat.le_succ _)) (.string v)).setCell (p := ⟨w.heap.size + 1, 4, none⟩) (.inr (Nat.le_succ _)) (.string r)); generalize ((((W7.setCell ⟨w.heap.size + 1, 1, none⟩ (.int .u8 (op : Int))).setCell ⟨w.heap.size + 1, 2, none⟩ (.int .i64 n)).setCell ⟨w.heap.size + 1, 3, none⟩ (.string v)).setCell ⟨w.heap.size + 1, 4, none⟩ (.string r)) = W9 at hD9 hR9 hK9 ⊢)
    | (have hD9 : Box ((((W7.setCell ⟨w.heap.size + 1, 2, none⟩ (.int .i64 n)).setCell ⟨w.heap.size + 1, 3, none⟩ (.string v)).setCell ⟨w.heap.size + 1, 4, none⟩ (.string r)).setCell ⟨w.heap.size + 1, 1, none⟩ (.int .u8 (op : Int))) (w.heap.size + 1) 25 #[.string x, .int .u8 (op : Int), .int .i64 n, .string v, .string r] := ((((HD.out.stored 2 _).stored 3 _).stored 4 _).stored 1 _); have hR9 : Box ((((W7.setCell ⟨w.heap.size + 1, 2, none⟩ (.int .i64 n)).setCell ⟨w.heap.size + 1, 3, none⟩ (.string v)).setCell ⟨w.heap.size + 1, 4, none⟩ (.string r)).setCell ⟨w.heap.size + 1, 1, none⟩ (.int .u8 (op : Int))) w.heap.size 25 #[.string ⟨#[]⟩, .int .u8 0, .int .i64 0, .string ⟨#[]⟩, .string ⟨#[]⟩] := (box_off (box_off (box_off (box_off HR.out ⟨w.heap.size + 1, 2, none⟩ HNE.out (.int .i64 n)) ⟨w.heap.size + 1, 3, none⟩ HNE.out (.string v)) ⟨w.heap.size + 1, 4, none⟩ HNE.out (.string r)) ⟨w.heap.size + 1, 1, none⟩ HNE.out (.int .u8 (op : Int))); have hK9 : Kept (fun _ => False) w ((((W7.setCell ⟨w.heap.size + 1, 2, none⟩ (.int .i64 n)).setCell ⟨w.heap.size + 1, 3, none⟩ (.string v)).setCell ⟨w.heap.size + 1, 4, none⟩ (.string r)).setCell ⟨w.heap.size + 1, 1, none⟩ (.int .u8 (op : Int))) := ((((HK.out.setCell (p := ⟨w.heap.size + 1, 2, none⟩) (.inr (Nat.le_succ _)) (.int .i64 n)).setCell (p := ⟨w.heap.size + 1, 3, none⟩) (.inr (Nat.le_succ _)) (.string v)).setCell (p := ⟨w.heap.size + 1, 4, none⟩) (.inr (Nat.le_succ _)) (.string r)).setCell (p := ⟨w.heap.size + 1, 1, none⟩) (.inr (Nat.le_succ _)) (.int .u8 (op : Int))); generalize ((((W7.setCell ⟨w.heap.size + 1, 2, none⟩ (.int .i64 n)).setCell ⟨w.heap.size + 1, 3, none⟩ (.string v)).setCell ⟨w.heap.size + 1, 4, none⟩ (.string r)).setCell ⟨w.heap.size + 1, 1, none⟩ (.int .u8 (op : Int))) = W9 at hD9 hR9 hK9 ⊢)
  all_goals
    have HR := Lib.hid hR9
    have HD := Lib.hid hD9
    have HK := Lib.hid hK9
    clear hR9 hD9 hK9
    have HK := Lib.hid (HK.out.drew)
    have HR := Lib.hid (show Box (World.drew _) w.heap.size 25 #[.string ⟨#[]⟩, .int .u8 0, .int .i64 0, .string ⟨#[]⟩, .string ⟨#[]⟩] from HR.out)
    have HD := Lib.hid (show Box (World.drew _) (w.heap.size + 1) 25 #[.string x, .int .u8 (op : Int), .int .i64 n, .string v, .string r] from HD.out)
    have d0 := HD.out.cell 0
    have d1 := HD.out.cell 1
    have d2 := HD.out.cell 2
    have d3 := HD.out.cell 3
    have d4 := HD.out.cell 4
    go_wp2_with (first
      | (go_at_call 45; (with_reducible refine (hM _ HK.out).mono ?_); rintro e w8 ⟨rfl, hk8⟩; have HR := Lib.hid (hk8.box HR.out (fun h => h)); have HD := Lib.hid (hk8.box HD.out (fun h => h)); have HK := Lib.hid (Kept.trans HK.out hk8 (fun _ _ h => h)); have r0 := HR.out.cell 0; have r1 := HR.out.cell 1; have r2 := HR.out.cell 2; have r3 := HR.out.cell 3; have r4 := HR.out.cell 4; have t0 := HR.out.free 0; have t1 := HR.out.free 1; have t2 := HR.out.free 2; have t3 := HR.out.free 3; have t4 := HR.out.free 4; have d0 := HD.out.cell 0; have d1 := HD.out.cell 1; have d2 := HD.out.cell 2; have d3 := HD.out.cell 3; have d4 := HD.out.cell 4; have f0 := HD.out.free 0; have f1 := HD.out.free 1; have f2 := HD.out.free 2; have f3 := HD.out.free 3; have f4 := HD.out.free 4; clear hk8)
      | fail)
    exact bodyPost_ret (dep_pair rfl _ _ w.heap.size _ _ _ _ _ _ rfl rfl (five_box HR.out _ _ _ _ _)) rfl ⟨rfl, five HK.out (Nat.le_refl _) _ _ _ _ _⟩
end Go.Proofs.YtlagnebgoclaeaaGreatDoor
