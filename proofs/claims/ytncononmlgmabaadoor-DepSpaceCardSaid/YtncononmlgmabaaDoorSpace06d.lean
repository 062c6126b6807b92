/-
  The walk over the law DepSpace. Conditions: as each theorem states.
-/
import Derived.Test.YtncononmlgmabaaDoorBack06
import Derived.Deep.RegionWith
import Derived.Laws.Runes
import Derived.Laws.Strings3
namespace Go.Proofs.YtncononmlgmabaaDoor
open Go.RowKit Ver Evr Span Dep

set_option maxRecDepth 100000 in
set_option maxHeartbeats 2000000 in
theorem depspace_yes4 (nm : ByteArray) (o : Nat) (n : Int) (v r : ByteArray) (i j : Int) (w : World) (hAw : (∀ W, Kept (fun _ => False) w W → Calls Tryd.prog 8 #[] W fun e w' => e = .returned (.bool true) ∧ Kept (fun _ => False) W w')) (hLg : (∀ W, Kept (fun _ => False) w W → Calls Tryd.prog 21 #[.agg #[.string nm, .int .u8 (o : Int), .int .i64 n, .string v, .string r]] W fun e w' => e = .returned (.bool false) ∧ Kept (fun _ => False) W w')) (t : ByteArray) (hts : t.size ≤ 1000) (k : Nat) (hk : k ≤ t.size) (ek : (IntKind.u64.wrap i).tmod ((t.size : Int) + 1) = (k : Int)) (ej : (IntKind.u64.wrap j).tmod 6 = 4) (hS : (∀ W, Kept (fun _ => False) w W → Calls Tryd.prog 17 #[.agg #[.string nm, .int .u8 (o : Int), .int .i64 n, .string v, .string r]] W fun e w' => e = .returned (.tuple #[.string t, .int .i64 0]) ∧ Kept (fun _ => False) W w')) (hP : (∀ W, Kept (fun _ => False) w W → Calls Tryd.prog 9 #[.string ((t.extract 0 k ++ ⟨#[33]⟩) ++ t.extract k t.size)] W fun e w' => e = .returned (.tuple #[.agg #[.string ⟨#[]⟩, .int .u8 0, .int .i64 0, .string ⟨#[]⟩, .string ⟨#[]⟩], .int .i64 4]) ∧ Kept (fun _ => False) W w')) : Calls Tryd.prog 7 #[.agg #[.string nm, .int .u8 (o : Int), .int .i64 n, .string v, .string r], .int .i64 i, .int .i64 j] w fun e w' => e = .returned (.bool true) ∧ Kept (fun _ => False) w w' := by
  have hw1 : IntKind.i64.wrap ((t.size : Int) + 1) = (t.size : Int) + 1 := IntWalk.i64_in _ ⟨by omega, by omega⟩
  have hw2 : IntKind.u64.wrap ((t.size : Int) + 1) = (t.size : Int) + 1 := IntWalk.u64_in _ ⟨by omega, by omega⟩
  have hw3 : IntKind.i64.wrap (k : Int) = (k : Int) := IntWalk.i64_in _ ⟨by omega, by omega⟩
  have hw4 : IntKind.i64.wrap 4 = 4 := by kernel_rfl
  have hd : ((t.size : Int) + 1 == 0) = false := by simp; omega
  have hk1 : (0 : Int) ≤ (k : Int) := by omega
  have hk2 : (k : Int) ≤ (t.size : Int) := by omega
  have hcv : ∀ W, (convert 5 9 (.int .u8 33)).run Tryd.prog W = .ok (.string ⟨#[33]⟩) W := fun W => by kernel_rfl
  have hz1 : (t.extract 0 k).size + (⟨#[33]⟩ : ByteArray).size ≤ maxLen := by
    rw [ByteArray.size_extract]; show _ + 1 ≤ maxLen; unfold maxLen; omega
  have hz2 : (t.extract 0 k ++ (⟨#[33]⟩ : ByteArray)).size + (t.extract k t.size).size ≤ maxLen := by
    rw [ByteArray.size_append, ByteArray.size_extract, ByteArray.size_extract]; show _ + 1 + _ ≤ maxLen; unfold maxLen; omega
  have HA := Lib.hid (Box.made w 27 #[.string nm, .int .u8 (o : Int), .int .i64 n, .string v, .string r])
  have HK := Lib.hid ((Kept.refl (fun _ => False) w).alloc (.cells #[.string nm, .int .u8 (o : Int), .int .i64 n, .string v, .string r] 27))
  go_enter Tryd.func7, Tryd.ntmps7
  go_wp2_with (first
    | (go_at_call 21; (with_reducible refine (hLg _ HK.out).mono ?_); rintro e w5 ⟨rfl, hk5⟩; have HA := Lib.hid (hk5.box HA.out (fun h => h)); have HK := Lib.hid (Kept.trans HK.out hk5 (fun _ _ h => h)); have ax0 := HA.out.cell 0; have ax1 := HA.out.cell 1; have ax2 := HA.out.cell 2; have ax3 := HA.out.cell 3; have ax4 := HA.out.cell 4; clear hk5)
    | (go_at_call 8; (with_reducible refine (hAw _ HK.out).mono ?_); rintro e w6 ⟨rfl, hk6⟩; have HA := Lib.hid (hk6.box HA.out (fun h => h)); have HK := Lib.hid (Kept.trans HK.out hk6 (fun _ _ h => h)); have ax0 := HA.out.cell 0; have ax1 := HA.out.cell 1; have ax2 := HA.out.cell 2; have ax3 := HA.out.cell 3; have ax4 := HA.out.cell 4; clear hk6)
    | (go_at_call 17; (with_reducible refine (hS _ HK.out).mono ?_); rintro e w7 ⟨rfl, hk7⟩; have HA := Lib.hid (hk7.box HA.out (fun h => h)); have HK := Lib.hid (Kept.trans HK.out hk7 (fun _ _ h => h)); have ax0 := HA.out.cell 0; have ax1 := HA.out.cell 1; have ax2 := HA.out.cell 2; have ax3 := HA.out.cell 3; have ax4 := HA.out.cell 4; clear hk7)
    | fail)
  have hE : ∀ h, Utf8.encode ((((⟨#[32, 40, 41, 44, 33, 42]⟩ : ByteArray)[4]'h).toNat : Nat) : Int) = ⟨#[33]⟩ := fun h => by kernel_rfl
  simp only [hE]
  clear hE
  have HKa := Lib.hid ((HK.out.alloc (.cells #[.string ⟨#[]⟩, .int .u8 0, .int .i64 0, .string ⟨#[]⟩, .string ⟨#[]⟩] 27)).drew)
  have HBa := Lib.hid (show Box (w7.alloc (.cells #[.string ⟨#[]⟩, .int .u8 0, .int .i64 0, .string ⟨#[]⟩, .string ⟨#[]⟩] 27)).drew w7.heap.size 27 #[.string ⟨#[]⟩, .int .u8 0, .int .i64 0, .string ⟨#[]⟩, .string ⟨#[]⟩] from Box.made w7 27 #[.string ⟨#[]⟩, .int .u8 0, .int .i64 0, .string ⟨#[]⟩, .string ⟨#[]⟩])
  have HGE := Lib.hid HK.out.size
  have HK := Lib.hid HK.out.drew
  go_region_with ((first
    | (go_at_call 9; (with_reducible refine (hP _ HK.out).mono ?_); rintro e w20 ⟨rfl, hk20⟩; have HK := Lib.hid (Kept.trans HK.out hk20 (fun _ _ h => h)); clear hk20)
    | (go_at_call 9; (with_reducible refine (hP _ HKa.out).mono ?_); rintro e w20 ⟨rfl, hk20⟩; have HK := Lib.hid (Kept.trans HKa.out hk20 (fun _ _ h => h)); have HB := Lib.hid (hk20.box HBa.out (fun h => h)); have bx0 := HB.out.cell 0; have bx1 := HB.out.cell 1; have bx2 := HB.out.cell 2; have bx3 := HB.out.cell 3; have bx4 := HB.out.cell 4; have fx0 := HB.out.free 0; have fx1 := HB.out.free 1; have fx2 := HB.out.free 2; have fx3 := HB.out.free 3; have fx4 := HB.out.free 4; clear hk20)
    | fail))
  all_goals go_wp2_with fail
  all_goals go_ret
  all_goals first
    | exact ⟨rfl, HK.out.alloc _⟩
    | exact ⟨rfl, five HK.out HGE.out _ _ _ _ _⟩
set_option maxRecDepth 100000 in
set_option maxHeartbeats 2000000 in
theorem depspace_yes5 (nm : ByteArray) (o : Nat) (n : Int) (v r : ByteArray) (i j : Int) (w : World) (hAw : (∀ W, Kept (fun _ => False) w W → Calls Tryd.prog 8 #[] W fun e w' => e = .returned (.bool true) ∧ Kept (fun _ => False) W w')) (hLg : (∀ W, Kept (fun _ => False) w W → Calls Tryd.prog 21 #[.agg #[.string nm, .int .u8 (o : Int), .int .i64 n, .string v, .string r]] W fun e w' => e = .returned (.bool false) ∧ Kept (fun _ => False) W w')) (t : ByteArray) (hts : t.size ≤ 1000) (k : Nat) (hk : k ≤ t.size) (ek : (IntKind.u64.wrap i).tmod ((t.size : Int) + 1) = (k : Int)) (ej : (IntKind.u64.wrap j).tmod 6 = 5) (hS : (∀ W, Kept (fun _ => False) w W → Calls Tryd.prog 17 #[.agg #[.string nm, .int .u8 (o : Int), .int .i64 n, .string v, .string r]] W fun e w' => e = .returned (.tuple #[.string t, .int .i64 0]) ∧ Kept (fun _ => False) W w')) (hP : (∀ W, Kept (fun _ => False) w W → Calls Tryd.prog 9 #[.string ((t.extract 0 k ++ ⟨#[42]⟩) ++ t.extract k t.size)] W fun e w' => e = .returned (.tuple #[.agg #[.string ⟨#[]⟩, .int .u8 0, .int .i64 0, .string ⟨#[]⟩, .string ⟨#[]⟩], .int .i64 4]) ∧ Kept (fun _ => False) W w')) : Calls Tryd.prog 7 #[.agg #[.string nm, .int .u8 (o : Int), .int .i64 n, .string v, .string r], .int .i64 i, .int .i64 j] w fun e w' => e = .returned (.bool true) ∧ Kept (fun _ => False) w w' := by
  have hw1 : IntKind.i64.wrap ((t.size : Int) + 1) = (t.size : Int) + 1 := IntWalk.i64_in _ ⟨by omega, by omega⟩
  have hw2 : IntKind.u64.wrap ((t.size : Int) + 1) = (t.size : Int) + 1 := IntWalk.u64_in _ ⟨by omega, by omega⟩
  have hw3 : IntKind.i64.wrap (k : Int) = (k : Int) := IntWalk.i64_in _ ⟨by omega, by omega⟩
  have hw4 : IntKind.i64.wrap 5 = 5 := by kernel_rfl
  have hd : ((t.size : Int) + 1 == 0) = false := by simp; omega
  have hk1 : (0 : Int) ≤ (k : Int) := by omega
  have hk2 : (k : Int) ≤ (t.size : Int) := by omega
  have hcv : ∀ W, (convert 5 9 (.int .u8 42)).run Tryd.prog W = .ok (.string ⟨#[42]⟩) W := fun W => by kernel_rfl
  have hz1 : (t.extract 0 k).size + (⟨#[42]⟩ : ByteArray).size ≤ maxLen := by
    rw [ByteArray.size_extract]; show _ + 1 ≤ maxLen; unfold maxLen; omega
  have hz2 : (t.extract 0 k ++ (⟨#[42]⟩ : ByteArray)).size + (t.extract k t.size).size ≤ maxLen := by
    rw [ByteArray.size_append, ByteArray.size_extract, ByteArray.size_extract]; show _ + 1 + _ ≤ maxLen; unfold maxLen; omega
  have HA := Lib.hid (Box.made w 27 #[.string nm, .int .u8 (o : Int), .int .i64 n, .string v, .string r])
  have HK := Lib.hid ((Kept.refl (fun _ => False) w).alloc (.cells #[.string nm, .int .u8 (o : Int), .int .i64 n, .string v, .string r] 27))
  go_enter Tryd.func7, Tryd.ntmps7
  go_wp2_with (first
    | (go_at_call 21; (with_reducible refine (hLg _ HK.out).mono ?_); rintro e w5 ⟨rfl, hk5⟩; have HA := Lib.hid (hk5.box HA.out (fun h => h)); have HK := Lib.hid (Kept.trans HK.out hk5 (fun _ _ h => h)); have ax0 := HA.out.cell 0; have ax1 := HA.out.cell 1; have ax2 := HA.out.cell 2; have ax3 := HA.out.cell 3; have ax4 := HA.out.cell 4; clear hk5)
    | (go_at_call 8; (with_reducible refine (hAw _ HK.out).mono ?_); rintro e w6 ⟨rfl, hk6⟩; have HA := Lib.hid (hk6.box HA.out (fun h => h)); have HK := Lib.hid (Kept.trans HK.out hk6 (fun _ _ h => h)); have ax0 := HA.out.cell 0; have ax1 := HA.out.cell 1; have ax2 := HA.out.cell 2; have ax3 := HA.out.cell 3; have ax4 := HA.out.cell 4; clear hk6)
    | (go_at_call 17; (with_reducible refine (hS _ HK.out).mono ?_); rintro e w7 ⟨rfl, hk7⟩; have HA := Lib.hid (hk7.box HA.out (fun h => h)); have HK := Lib.hid (Kept.trans HK.out hk7 (fun _ _ h => h)); have ax0 := HA.out.cell 0; have ax1 := HA.out.cell 1; have ax2 := HA.out.cell 2; have ax3 := HA.out.cell 3; have ax4 := HA.out.cell 4; clear hk7)
    | fail)
  have hE : ∀ h, Utf8.encode ((((⟨#[32, 40, 41, 44, 33, 42]⟩ : ByteArray)[5]'h).toNat : Nat) : Int) = ⟨#[42]⟩ := fun h => by kernel_rfl
  simp only [hE]
  clear hE
  have HKa := Lib.hid ((HK.out.alloc (.cells #[.string ⟨#[]⟩, .int .u8 0, .int .i64 0, .string ⟨#[]⟩, .string ⟨#[]⟩] 27)).drew)
  have HBa := Lib.hid (show Box (w7.alloc (.cells #[.string ⟨#[]⟩, .int .u8 0, .int .i64 0, .string ⟨#[]⟩, .string ⟨#[]⟩] 27)).drew w7.heap.size 27 #[.string ⟨#[]⟩, .int .u8 0, .int .i64 0, .string ⟨#[]⟩, .string ⟨#[]⟩] from Box.made w7 27 #[.string ⟨#[]⟩, .int .u8 0, .int .i64 0, .string ⟨#[]⟩, .string ⟨#[]⟩])
  have HGE := Lib.hid HK.out.size
  have HK := Lib.hid HK.out.drew
  go_region_with ((first
    | (go_at_call 9; (with_reducible refine (hP _ HK.out).mono ?_); rintro e w20 ⟨rfl, hk20⟩; have HK := Lib.hid (Kept.trans HK.out hk20 (fun _ _ h => h)); clear hk20)
    | (go_at_call 9; (with_reducible refine (hP _ HKa.out).mono ?_); rintro e w20 ⟨rfl, hk20⟩; have HK := Lib.hid (Kept.trans HKa.out hk20 (fun _ _ h => h)); have HB := Lib.hid (hk20.box HBa.out (fun h => h)); have bx0 := HB.out.cell 0; have bx1 := HB.out.cell 1; have bx2 := HB.out.cell 2; have bx3 := HB.out.cell 3; have bx4 := HB.out.cell 4; have fx0 := HB.out.free 0; have fx1 := HB.out.free 1; have fx2 := HB.out.free 2; have fx3 := HB.out.free 3; have fx4 := HB.out.free 4; clear hk20)
    | fail))
  all_goals go_wp2_with fail
  all_goals go_ret
  all_goals first
    | exact ⟨rfl, HK.out.alloc _⟩
    | exact ⟨rfl, five HK.out HGE.out _ _ _ _ _⟩
end Go.Proofs.YtncononmlgmabaaDoor
