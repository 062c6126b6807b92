/-
  The walk over the law PkgNames. Conditions: as each theorem states.
-/
import Derived.Test.YtbofbkndmnidpaaDoorK34
import Derived.Deep.RegionHeld3
import Derived.BigQuiet
namespace Go.Proofs.YtbofbkndmnidpaaDoor
open Go.RowKit Ver Evr Span Dep Rich
attribute [local go_sem ↓] execOp_loadPk

set_option maxRecDepth 100000 in
set_option maxHeartbeats 16000000 in
theorem pkgnames_walk (w : World) (hW : PkW w) : Calls Tryd.prog 3 #[] w fun e w' => e = .returned (.bool true) ∧ Kept (fun _ => False) w w' := by
  have HW := Lib.hid hW
  clear hW
  have hmkd := make_deps
  go_enter Tryd.func3, Tryd.ntmps3
  have HK := Lib.hid (Kept.refl (fun _ => False) w)
  go_wp2_with fail
  refine (natom10_walk ⟨#[97]⟩ _).mono ?_
  rintro e w1 ⟨rfl, hk1⟩
  have HK := Lib.hid (HK.out.trans hk1 (fun _ _ h => h))
  clear hk1
  go_wp2_with fail
  refine (natom10_walk ⟨#[98]⟩ _).mono ?_
  rintro e w2 ⟨rfl, hk1⟩
  have HK := Lib.hid (HK.out.trans hk1 (fun _ _ h => h))
  clear hk1
  go_wp2_with fail
  have hS1 := (Box.made w2 28 #[.int .u8 1, .string ⟨#[97]⟩, .int .u8 0, .int .i64 0, .string ⟨#[]⟩, .string ⟨#[]⟩, .slice none 0 0, .int .u8 1, .string ⟨#[98]⟩, .int .u8 0, .int .i64 0, .string ⟨#[]⟩, .string ⟨#[]⟩, .slice none 0 0]).after_alloc (.cells #[.int .u8 4, .string ⟨#[]⟩, .int .u8 0, .int .i64 0, .string ⟨#[]⟩, .string ⟨#[]⟩, .slice (some ⟨w2.heap.size, 0, none⟩) 2 2] 28)
  have hI1 := Box.made (w2.alloc (.cells #[.int .u8 1, .string ⟨#[97]⟩, .int .u8 0, .int .i64 0, .string ⟨#[]⟩, .string ⟨#[]⟩, .slice none 0 0, .int .u8 1, .string ⟨#[98]⟩, .int .u8 0, .int .i64 0, .string ⟨#[]⟩, .string ⟨#[]⟩, .slice none 0 0] 28)) 28 #[.int .u8 4, .string ⟨#[]⟩, .int .u8 0, .int .i64 0, .string ⟨#[]⟩, .string ⟨#[]⟩, .slice (some ⟨w2.heap.size, 0, none⟩) 2 2]
  rw [World.size_alloc] at hI1
  have hK1 := (HK.out.alloc (.cells #[.int .u8 1, .string ⟨#[97]⟩, .int .u8 0, .int .i64 0, .string ⟨#[]⟩, .string ⟨#[]⟩, .slice none 0 0, .int .u8 1, .string ⟨#[98]⟩, .int .u8 0, .int .i64 0, .string ⟨#[]⟩, .string ⟨#[]⟩, .slice none 0 0] 28)).alloc (.cells #[.int .u8 4, .string ⟨#[]⟩, .int .u8 0, .int .i64 0, .string ⟨#[]⟩, .string ⟨#[]⟩, .slice (some ⟨w2.heap.size, 0, none⟩) 2 2] 28)
  generalize (w2.alloc (.cells #[.int .u8 1, .string ⟨#[97]⟩, .int .u8 0, .int .i64 0, .string ⟨#[]⟩, .string ⟨#[]⟩, .slice none 0 0, .int .u8 1, .string ⟨#[98]⟩, .int .u8 0, .int .i64 0, .string ⟨#[]⟩, .string ⟨#[]⟩, .slice none 0 0] 28)).alloc (.cells #[.int .u8 4, .string ⟨#[]⟩, .int .u8 0, .int .i64 0, .string ⟨#[]⟩, .string ⟨#[]⟩, .slice (some ⟨w2.heap.size, 0, none⟩) 2 2] 28) = u3 at hS1 hI1 hK1 ⊢
  obtain ⟨ga, hgs⟩ : ∃ g, g = w2.heap.size := ⟨_, rfl⟩
  have hbga : w.heap.size ≤ ga := by rw [hgs]; exact HK.out.size
  rw [← hgs] at hS1 hI1 ⊢
  clear hgs HK
  have HK := Lib.hid hK1
  have Hga := Lib.hid hS1
  have HIga := Lib.hid hI1
  clear hK1 hS1 hI1
  refine (natom10_walk ⟨#[97]⟩ _).mono ?_
  rintro e w3 ⟨rfl, hk1⟩
  have HK := Lib.hid (HK.out.trans hk1 (fun _ _ h => h))
  have Hga := Lib.hid (hk1.box Hga.out (fun h => h))
  have HIga := Lib.hid (hk1.box HIga.out (fun h => h))
  clear hk1
  go_wp2_with fail
  refine (natom10_walk ⟨#[98]⟩ _).mono ?_
  rintro e w4 ⟨rfl, hk1⟩
  have HK := Lib.hid (HK.out.trans hk1 (fun _ _ h => h))
  have Hga := Lib.hid (hk1.box Hga.out (fun h => h))
  have HIga := Lib.hid (hk1.box HIga.out (fun h => h))
  clear hk1
  go_wp2_with fail
  have hS1 := (Box.made w4 28 #[.int .u8 1, .string ⟨#[97]⟩, .int .u8 0, .int .i64 0, .string ⟨#[]⟩, .string ⟨#[]⟩, .slice none 0 0, .int .u8 1, .string ⟨#[98]⟩, .int .u8 0, .int .i64 0, .string ⟨#[]⟩, .string ⟨#[]⟩, .slice none 0 0]).after_alloc (.cells #[.int .u8 5, .string ⟨#[]⟩, .int .u8 0, .int .i64 0, .string ⟨#[]⟩, .string ⟨#[]⟩, .slice (some ⟨w4.heap.size, 0, none⟩) 2 2] 28)
  have hI1 := Box.made (w4.alloc (.cells #[.int .u8 1, .string ⟨#[97]⟩, .int .u8 0, .int .i64 0, .string ⟨#[]⟩, .string ⟨#[]⟩, .slice none 0 0, .int .u8 1, .string ⟨#[98]⟩, .int .u8 0, .int .i64 0, .string ⟨#[]⟩, .string ⟨#[]⟩, .slice none 0 0] 28)) 28 #[.int .u8 5, .string ⟨#[]⟩, .int .u8 0, .int .i64 0, .string ⟨#[]⟩, .string ⟨#[]⟩, .slice (some ⟨w4.heap.size, 0, none⟩) 2 2]
  rw [World.size_alloc] at hI1
  have hK1 := (HK.out.alloc (.cells #[.int .u8 1, .string ⟨#[97]⟩, .int .u8 0, .int .i64 0, .string ⟨#[]⟩, .string ⟨#[]⟩, .slice none 0 0, .int .u8 1, .string ⟨#[98]⟩, .int .u8 0, .int .i64 0, .string ⟨#[]⟩, .string ⟨#[]⟩, .slice none 0 0] 28)).alloc (.cells #[.int .u8 5, .string ⟨#[]⟩, .int .u8 0, .int .i64 0, .string ⟨#[]⟩, .string ⟨#[]⟩, .slice (some ⟨w4.heap.size, 0, none⟩) 2 2] 28)
  have Hga := (Hga.out.after_alloc (.cells #[.int .u8 1, .string ⟨#[97]⟩, .int .u8 0, .int .i64 0, .string ⟨#[]⟩, .string ⟨#[]⟩, .slice none 0 0, .int .u8 1, .string ⟨#[98]⟩, .int .u8 0, .int .i64 0, .string ⟨#[]⟩, .string ⟨#[]⟩, .slice none 0 0] 28)).after_alloc (.cells #[.int .u8 5, .string ⟨#[]⟩, .int .u8 0, .int .i64 0, .string ⟨#[]⟩, .string ⟨#[]⟩, .slice (some ⟨w4.heap.size, 0, none⟩) 2 2] 28)
  have HIga := (HIga.out.after_alloc (.cells #[.int .u8 1, .string ⟨#[97]⟩, .int .u8 0, .int .i64 0, .string ⟨#[]⟩, .string ⟨#[]⟩, .slice none 0 0, .int .u8 1, .string ⟨#[98]⟩, .int .u8 0, .int .i64 0, .string ⟨#[]⟩, .string ⟨#[]⟩, .slice none 0 0] 28)).after_alloc (.cells #[.int .u8 5, .string ⟨#[]⟩, .int .u8 0, .int .i64 0, .string ⟨#[]⟩, .string ⟨#[]⟩, .slice (some ⟨w4.heap.size, 0, none⟩) 2 2] 28)
  generalize (w4.alloc (.cells #[.int .u8 1, .string ⟨#[97]⟩, .int .u8 0, .int .i64 0, .string ⟨#[]⟩, .string ⟨#[]⟩, .slice none 0 0, .int .u8 1, .string ⟨#[98]⟩, .int .u8 0, .int .i64 0, .string ⟨#[]⟩, .string ⟨#[]⟩, .slice none 0 0] 28)).alloc (.cells #[.int .u8 5, .string ⟨#[]⟩, .int .u8 0, .int .i64 0, .string ⟨#[]⟩, .string ⟨#[]⟩, .slice (some ⟨w4.heap.size, 0, none⟩) 2 2] 28) = u5 at hS1 hI1 hK1 Hga HIga ⊢
  obtain ⟨gb, hgs⟩ : ∃ g, g = w4.heap.size := ⟨_, rfl⟩
  have hbgb : w.heap.size ≤ gb := by rw [hgs]; exact HK.out.size
  rw [← hgs] at hS1 hI1 ⊢
  clear hgs HK
  have HK := Lib.hid hK1
  have Hgb := Lib.hid hS1
  have HIgb := Lib.hid hI1
  clear hK1 hS1 hI1
  have Hga := Lib.hid Hga
  have HIga := Lib.hid HIga
  refine (one10_walk _).mono ?_
  rintro e w6 ⟨rfl, hw6⟩
  have hk1 : Kept (fun _ => False) u5 w6 := by rw [hw6]; exact (Kept.refl _ _).alloc _
  have HK := Lib.hid (HK.out.trans hk1 (fun _ _ h => h))
  have Hga := Lib.hid (hk1.box Hga.out (fun h => h))
  have HIga := Lib.hid (hk1.box HIga.out (fun h => h))
  have Hgb := Lib.hid (hk1.box Hgb.out (fun h => h))
  have HIgb := Lib.hid (hk1.box HIgb.out (fun h => h))
  clear hk1 hw6
  go_wp2_with fail
  have lia := HIga.out.lt
  have lib := HIgb.out.lt
  have lga := Hga.out.lt
  have lgb := Hgb.out.lt
  have hbz := HK.out.size
  have hG := (Box.made w6 33 #[.string ⟨#[97]⟩, .int .i64 0, .string ⟨#[49]⟩, .string ⟨#[49]⟩, .int .u8 1, .string ⟨#[]⟩, .slice (some ⟨w6.heap.size + 1, 0, none⟩) 32 32, .slice none 0 0, .slice none 0 0, .slice none 0 0, .slice none 0 0, .slice none 0 0, .slice none 0 0, .slice none 0 0, .slice none 0 0]).after_alloc (.cells zRow32 25)
  have hV := Box.made (w6.alloc (.cells #[.string ⟨#[97]⟩, .int .i64 0, .string ⟨#[49]⟩, .string ⟨#[49]⟩, .int .u8 1, .string ⟨#[]⟩, .slice (some ⟨w6.heap.size + 1, 0, none⟩) 32 32, .slice none 0 0, .slice none 0 0, .slice none 0 0, .slice none 0 0, .slice none 0 0, .slice none 0 0, .slice none 0 0, .slice none 0 0] 33)) 25 zRow32
  rw [World.size_alloc] at hV
  have hK1 := (HK.out.alloc (.cells #[.string ⟨#[97]⟩, .int .i64 0, .string ⟨#[49]⟩, .string ⟨#[49]⟩, .int .u8 1, .string ⟨#[]⟩, .slice (some ⟨w6.heap.size + 1, 0, none⟩) 32 32, .slice none 0 0, .slice none 0 0, .slice none 0 0, .slice none 0 0, .slice none 0 0, .slice none 0 0, .slice none 0 0, .slice none 0 0] 33)).alloc (.cells zRow32 25)
  have Hga := ((Hga.out).after_alloc (.cells #[.string ⟨#[97]⟩, .int .i64 0, .string ⟨#[49]⟩, .string ⟨#[49]⟩, .int .u8 1, .string ⟨#[]⟩, .slice (some ⟨w6.heap.size + 1, 0, none⟩) 32 32, .slice none 0 0, .slice none 0 0, .slice none 0 0, .slice none 0 0, .slice none 0 0, .slice none 0 0, .slice none 0 0, .slice none 0 0] 33)).after_alloc (.cells zRow32 25)
  have HIga := ((HIga.out).after_alloc (.cells #[.string ⟨#[97]⟩, .int .i64 0, .string ⟨#[49]⟩, .string ⟨#[49]⟩, .int .u8 1, .string ⟨#[]⟩, .slice (some ⟨w6.heap.size + 1, 0, none⟩) 32 32, .slice none 0 0, .slice none 0 0, .slice none 0 0, .slice none 0 0, .slice none 0 0, .slice none 0 0, .slice none 0 0, .slice none 0 0] 33)).after_alloc (.cells zRow32 25)
  have Hgb := ((Hgb.out).after_alloc (.cells #[.string ⟨#[97]⟩, .int .i64 0, .string ⟨#[49]⟩, .string ⟨#[49]⟩, .int .u8 1, .string ⟨#[]⟩, .slice (some ⟨w6.heap.size + 1, 0, none⟩) 32 32, .slice none 0 0, .slice none 0 0, .slice none 0 0, .slice none 0 0, .slice none 0 0, .slice none 0 0, .slice none 0 0, .slice none 0 0] 33)).after_alloc (.cells zRow32 25)
  have HIgb := ((HIgb.out).after_alloc (.cells #[.string ⟨#[97]⟩, .int .i64 0, .string ⟨#[49]⟩, .string ⟨#[49]⟩, .int .u8 1, .string ⟨#[]⟩, .slice (some ⟨w6.heap.size + 1, 0, none⟩) 32 32, .slice none 0 0, .slice none 0 0, .slice none 0 0, .slice none 0 0, .slice none 0 0, .slice none 0 0, .slice none 0 0, .slice none 0 0] 33)).after_alloc (.cells zRow32 25)
  generalize (w6.alloc (.cells #[.string ⟨#[97]⟩, .int .i64 0, .string ⟨#[49]⟩, .string ⟨#[49]⟩, .int .u8 1, .string ⟨#[]⟩, .slice (some ⟨w6.heap.size + 1, 0, none⟩) 32 32, .slice none 0 0, .slice none 0 0, .slice none 0 0, .slice none 0 0, .slice none 0 0, .slice none 0 0, .slice none 0 0, .slice none 0 0] 33)).alloc (.cells zRow32 25) = u7 at hG hV hK1 Hga HIga Hgb HIgb ⊢
  obtain ⟨g4, hg4⟩ : ∃ g, g = w6.heap.size := ⟨_, rfl⟩
  rw [← hg4] at hG hV lia lib lga lgb hbz ⊢
  clear HK hg4
  have HK := Lib.hid hK1
  have HG := Lib.hid hG
  have HV := Lib.hid hV
  have HLT := Lib.hid (And.intro lia (And.intro lib (And.intro lga (And.intro lgb hbz))))
  have Hga := Lib.hid Hga
  have HIga := Lib.hid HIga
  have Hgb := Lib.hid Hgb
  have HIgb := Lib.hid HIgb
  have HCJ := Lib.hid (fun (W : World) (hk : Kept (fun b => b = g4) u7 W) => show W.cell? ⟨ga + 1, 0, none⟩ = some (.int .u8 4) ∧ W.cell? ⟨ga + 1, 1, none⟩ = some (.string ⟨#[]⟩) ∧ W.cell? ⟨ga + 1, 2, none⟩ = some (.int .u8 0) ∧ W.cell? ⟨ga + 1, 3, none⟩ = some (.int .i64 0) ∧ W.cell? ⟨ga + 1, 4, none⟩ = some (.string ⟨#[]⟩) ∧ W.cell? ⟨ga + 1, 5, none⟩ = some (.string ⟨#[]⟩) ∧ W.cell? ⟨ga + 1, 6, none⟩ = some (.slice (some ⟨ga, 0, none⟩) 2 2) ∧ W.cell? ⟨gb + 1, 0, none⟩ = some (.int .u8 5) ∧ W.cell? ⟨gb + 1, 1, none⟩ = some (.string ⟨#[]⟩) ∧ W.cell? ⟨gb + 1, 2, none⟩ = some (.int .u8 0) ∧ W.cell? ⟨gb + 1, 3, none⟩ = some (.int .i64 0) ∧ W.cell? ⟨gb + 1, 4, none⟩ = some (.string ⟨#[]⟩) ∧ W.cell? ⟨gb + 1, 5, none⟩ = some (.string ⟨#[]⟩) ∧ W.cell? ⟨gb + 1, 6, none⟩ = some (.slice (some ⟨gb, 0, none⟩) 2 2) from ⟨(hk.box HIga.out (fun h => by omega)).cell 0, (hk.box HIga.out (fun h => by omega)).cell 1, (hk.box HIga.out (fun h => by omega)).cell 2, (hk.box HIga.out (fun h => by omega)).cell 3, (hk.box HIga.out (fun h => by omega)).cell 4, (hk.box HIga.out (fun h => by omega)).cell 5, (hk.box HIga.out (fun h => by omega)).cell 6, (hk.box HIgb.out (fun h => by omega)).cell 0, (hk.box HIgb.out (fun h => by omega)).cell 1, (hk.box HIgb.out (fun h => by omega)).cell 2, (hk.box HIgb.out (fun h => by omega)).cell 3, (hk.box HIgb.out (fun h => by omega)).cell 4, (hk.box HIgb.out (fun h => by omega)).cell 5, (hk.box HIgb.out (fun h => by omega)).cell 6⟩)
  have KS0 := HCJ.out _ (show Kept (fun b => b = g4) u7 u7.drew from (Kept.refl _ u7).drew)
  clear hG hV hK1 lia lib lga lgb hbz hmkd
  go_region_held3 (fun w' => w'.cell? ⟨ga + 1, 0, none⟩ = some (.int .u8 4) ∧ w'.cell? ⟨ga + 1, 1, none⟩ = some (.string ⟨#[]⟩) ∧ w'.cell? ⟨ga + 1, 2, none⟩ = some (.int .u8 0) ∧ w'.cell? ⟨ga + 1, 3, none⟩ = some (.int .i64 0) ∧ w'.cell? ⟨ga + 1, 4, none⟩ = some (.string ⟨#[]⟩) ∧ w'.cell? ⟨ga + 1, 5, none⟩ = some (.string ⟨#[]⟩) ∧ w'.cell? ⟨ga + 1, 6, none⟩ = some (.slice (some ⟨ga, 0, none⟩) 2 2) ∧ w'.cell? ⟨gb + 1, 0, none⟩ = some (.int .u8 5) ∧ w'.cell? ⟨gb + 1, 1, none⟩ = some (.string ⟨#[]⟩) ∧ w'.cell? ⟨gb + 1, 2, none⟩ = some (.int .u8 0) ∧ w'.cell? ⟨gb + 1, 3, none⟩ = some (.int .i64 0) ∧ w'.cell? ⟨gb + 1, 4, none⟩ = some (.string ⟨#[]⟩) ∧ w'.cell? ⟨gb + 1, 5, none⟩ = some (.string ⟨#[]⟩) ∧ w'.cell? ⟨gb + 1, 6, none⟩ = some (.slice (some ⟨gb, 0, none⟩) 2 2))
    (first | exact KS0 | exact KS8 | exact HCJ.out _ (HKW8.out.alloc _) | exact HCJ.out _ ((HKW8.out.alloc _).setCell (.inl rfl) _))
    (first
      | (go_at_call 5; refine (natom10_walk ⟨#[99]⟩ _).mono ?_; rintro e w8 ⟨rfl, hk8⟩; have HK8 := Lib.hid (show Kept (fun _ => False) u7 w8 from (Kept.refl _ u7).drew.trans hk8 (fun _ _ h => h)); have HKW8 := Lib.hid (show Kept (fun b => b = g4) u7 w8 from HK8.out.weaker (fun _ _ h => h.elim)); have KS8 := HCJ.out _ HKW8.out; have y7 := fun ob => ((HK8.out.box HG.out (fun h => h)).after_alloc ob).cell 7; have z7 := fun ob => ((HK8.out.box HG.out (fun h => h)).after_alloc ob).free 7; clear hk8)
      | fail)
  have hk4 : Kept (fun b => b = g4) u7 ((w8.alloc (.cells #[.int .u8 4, .string ⟨#[]⟩, .int .u8 0, .int .i64 0, .string ⟨#[]⟩, .string ⟨#[]⟩, .slice (some ⟨ga, 0, none⟩) 2 2, .int .u8 5, .string ⟨#[]⟩, .int .u8 0, .int .i64 0, .string ⟨#[]⟩, .string ⟨#[]⟩, .slice (some ⟨gb, 0, none⟩) 2 2, .int .u8 1, .string ⟨#[99]⟩, .int .u8 0, .int .i64 0, .string ⟨#[]⟩, .string ⟨#[]⟩, .slice none 0 0] 28)).setCell ⟨g4, 7, none⟩ (.slice (some ⟨w8.heap.size, 0, none⟩) 3 3)) := (HKW8.out.alloc _).setCell (.inl rfl) _
  have hR : Box ((w8.alloc (.cells #[.int .u8 4, .string ⟨#[]⟩, .int .u8 0, .int .i64 0, .string ⟨#[]⟩, .string ⟨#[]⟩, .slice (some ⟨ga, 0, none⟩) 2 2, .int .u8 5, .string ⟨#[]⟩, .int .u8 0, .int .i64 0, .string ⟨#[]⟩, .string ⟨#[]⟩, .slice (some ⟨gb, 0, none⟩) 2 2, .int .u8 1, .string ⟨#[99]⟩, .int .u8 0, .int .i64 0, .string ⟨#[]⟩, .string ⟨#[]⟩, .slice none 0 0] 28)).setCell ⟨g4, 7, none⟩ (.slice (some ⟨w8.heap.size, 0, none⟩) 3 3)) w8.heap.size 28 #[.int .u8 4, .string ⟨#[]⟩, .int .u8 0, .int .i64 0, .string ⟨#[]⟩, .string ⟨#[]⟩, .slice (some ⟨ga, 0, none⟩) 2 2, .int .u8 5, .string ⟨#[]⟩, .int .u8 0, .int .i64 0, .string ⟨#[]⟩, .string ⟨#[]⟩, .slice (some ⟨gb, 0, none⟩) 2 2, .int .u8 1, .string ⟨#[99]⟩, .int .u8 0, .int .i64 0, .string ⟨#[]⟩, .string ⟨#[]⟩, .slice none 0 0] := ((Kept.refl (fun b => b = g4) (w8.alloc (.cells #[.int .u8 4, .string ⟨#[]⟩, .int .u8 0, .int .i64 0, .string ⟨#[]⟩, .string ⟨#[]⟩, .slice (some ⟨ga, 0, none⟩) 2 2, .int .u8 5, .string ⟨#[]⟩, .int .u8 0, .int .i64 0, .string ⟨#[]⟩, .string ⟨#[]⟩, .slice (some ⟨gb, 0, none⟩) 2 2, .int .u8 1, .string ⟨#[99]⟩, .int .u8 0, .int .i64 0, .string ⟨#[]⟩, .string ⟨#[]⟩, .slice none 0 0] 28))).setCell (.inl rfl) _).box (Box.made w8 28 #[.int .u8 4, .string ⟨#[]⟩, .int .u8 0, .int .i64 0, .string ⟨#[]⟩, .string ⟨#[]⟩, .slice (some ⟨ga, 0, none⟩) 2 2, .int .u8 5, .string ⟨#[]⟩, .int .u8 0, .int .i64 0, .string ⟨#[]⟩, .string ⟨#[]⟩, .slice (some ⟨gb, 0, none⟩) 2 2, .int .u8 1, .string ⟨#[99]⟩, .int .u8 0, .int .i64 0, .string ⟨#[]⟩, .string ⟨#[]⟩, .slice none 0 0]) (fun h => by have := HV.out.lt; have := HK8.out.size; omega)
  have hG : Box ((w8.alloc (.cells #[.int .u8 4, .string ⟨#[]⟩, .int .u8 0, .int .i64 0, .string ⟨#[]⟩, .string ⟨#[]⟩, .slice (some ⟨ga, 0, none⟩) 2 2, .int .u8 5, .string ⟨#[]⟩, .int .u8 0, .int .i64 0, .string ⟨#[]⟩, .string ⟨#[]⟩, .slice (some ⟨gb, 0, none⟩) 2 2, .int .u8 1, .string ⟨#[99]⟩, .int .u8 0, .int .i64 0, .string ⟨#[]⟩, .string ⟨#[]⟩, .slice none 0 0] 28)).setCell ⟨g4, 7, none⟩ (.slice (some ⟨w8.heap.size, 0, none⟩) 3 3)) g4 33 #[.string ⟨#[97]⟩, .int .i64 0, .string ⟨#[49]⟩, .string ⟨#[49]⟩, .int .u8 1, .string ⟨#[]⟩, .slice (some ⟨g4 + 1, 0, none⟩) 32 32, .slice (some ⟨w8.heap.size, 0, none⟩) 3 3, .slice none 0 0, .slice none 0 0, .slice none 0 0, .slice none 0 0, .slice none 0 0, .slice none 0 0, .slice none 0 0] := ((HK8.out.box HG.out (fun h => h)).after_alloc (.cells #[.int .u8 4, .string ⟨#[]⟩, .int .u8 0, .int .i64 0, .string ⟨#[]⟩, .string ⟨#[]⟩, .slice (some ⟨ga, 0, none⟩) 2 2, .int .u8 5, .string ⟨#[]⟩, .int .u8 0, .int .i64 0, .string ⟨#[]⟩, .string ⟨#[]⟩, .slice (some ⟨gb, 0, none⟩) 2 2, .int .u8 1, .string ⟨#[99]⟩, .int .u8 0, .int .i64 0, .string ⟨#[]⟩, .string ⟨#[]⟩, .slice none 0 0] 28)).stored 7 (.slice (some ⟨w8.heap.size, 0, none⟩) 3 3)
  have hK1 : Kept (fun _ => False) w ((w8.alloc (.cells #[.int .u8 4, .string ⟨#[]⟩, .int .u8 0, .int .i64 0, .string ⟨#[]⟩, .string ⟨#[]⟩, .slice (some ⟨ga, 0, none⟩) 2 2, .int .u8 5, .string ⟨#[]⟩, .int .u8 0, .int .i64 0, .string ⟨#[]⟩, .string ⟨#[]⟩, .slice (some ⟨gb, 0, none⟩) 2 2, .int .u8 1, .string ⟨#[99]⟩, .int .u8 0, .int .i64 0, .string ⟨#[]⟩, .string ⟨#[]⟩, .slice none 0 0] 28)).setCell ⟨g4, 7, none⟩ (.slice (some ⟨w8.heap.size, 0, none⟩) 3 3)) := ((HK.out.trans HK8.out (fun _ _ h => h)).alloc _).setCell (p := ⟨g4, 7, none⟩) (.inr (HLT.out.2.2.2.2)) _
  have hgr : g4 + 1 < w8.heap.size := by have := HV.out.lt; have := HK8.out.size; omega
  have Hga := Lib.hid (hk4.box Hga.out (fun h => by have := HLT.out; omega))
  have HIga := Lib.hid (hk4.box HIga.out (fun h => by have := HLT.out; omega))
  have Hgb := Lib.hid (hk4.box Hgb.out (fun h => by have := HLT.out; omega))
  have HIgb := Lib.hid (hk4.box HIgb.out (fun h => by have := HLT.out; omega))
  have HV := Lib.hid (hk4.box HV.out (fun h => by have := HLT.out; omega))
  clear HCJ KS0 KS8 y7 z7 HK8 HKW8 hk4 HK HG
  generalize (w8.alloc (.cells #[.int .u8 4, .string ⟨#[]⟩, .int .u8 0, .int .i64 0, .string ⟨#[]⟩, .string ⟨#[]⟩, .slice (some ⟨ga, 0, none⟩) 2 2, .int .u8 5, .string ⟨#[]⟩, .int .u8 0, .int .i64 0, .string ⟨#[]⟩, .string ⟨#[]⟩, .slice (some ⟨gb, 0, none⟩) 2 2, .int .u8 1, .string ⟨#[99]⟩, .int .u8 0, .int .i64 0, .string ⟨#[]⟩, .string ⟨#[]⟩, .slice none 0 0] 28)).setCell ⟨g4, 7, none⟩ (.slice (some ⟨w8.heap.size, 0, none⟩) 3 3) = u9 at hR hG hK1 Hga HIga Hgb HIgb HV ⊢
  obtain ⟨gr, hgr'⟩ : ∃ g, g = w8.heap.size := ⟨_, rfl⟩
  rw [← hgr'] at hR hG hgr ⊢
  clear hgr'
  have HK := Lib.hid hK1
  have HG := Lib.hid hG
  have HR := Lib.hid hR
  have HGR := Lib.hid hgr
  clear hK1 hG hR hgr
  have b0 := HIgb.out.cell 0
  have b1 := HIgb.out.cell 1
  have b2 := HIgb.out.cell 2
  have b3 := HIgb.out.cell 3
  have b4 := HIgb.out.cell 4
  have b5 := HIgb.out.cell 5
  have b6 := HIgb.out.cell 6
  have y8 := HG.out.cell 8
  have z8 := HG.out.free 8
  have hlg := HG.out.lt
  go_wp2_with fail
  have hk4 : Kept (fun b => b = g4) u9 ((u9.setCell ⟨g4, 8, none⟩ (.slice (some ⟨u9.heap.size, 0, none⟩) 1 1)).alloc (.cells #[.int .u8 5, .string ⟨#[]⟩, .int .u8 0, .int .i64 0, .string ⟨#[]⟩, .string ⟨#[]⟩, .slice (some ⟨gb, 0, none⟩) 2 2] 28)) := ((Kept.refl (fun b => b = g4) u9).setCell (p := ⟨g4, 8, none⟩) (.inl rfl) _).alloc _
  have hC : Box ((u9.setCell ⟨g4, 8, none⟩ (.slice (some ⟨u9.heap.size, 0, none⟩) 1 1)).alloc (.cells #[.int .u8 5, .string ⟨#[]⟩, .int .u8 0, .int .i64 0, .string ⟨#[]⟩, .string ⟨#[]⟩, .slice (some ⟨gb, 0, none⟩) 2 2] 28)) u9.heap.size 28 #[.int .u8 5, .string ⟨#[]⟩, .int .u8 0, .int .i64 0, .string ⟨#[]⟩, .string ⟨#[]⟩, .slice (some ⟨gb, 0, none⟩) 2 2] := by
    have h := Box.made (u9.setCell ⟨g4, 8, none⟩ (.slice (some ⟨u9.heap.size, 0, none⟩) 1 1)) 28 #[.int .u8 5, .string ⟨#[]⟩, .int .u8 0, .int .i64 0, .string ⟨#[]⟩, .string ⟨#[]⟩, .slice (some ⟨gb, 0, none⟩) 2 2]
    simpa [World.setCell] using h
  have hG : Box ((u9.setCell ⟨g4, 8, none⟩ (.slice (some ⟨u9.heap.size, 0, none⟩) 1 1)).alloc (.cells #[.int .u8 5, .string ⟨#[]⟩, .int .u8 0, .int .i64 0, .string ⟨#[]⟩, .string ⟨#[]⟩, .slice (some ⟨gb, 0, none⟩) 2 2] 28)) g4 33 #[.string ⟨#[97]⟩, .int .i64 0, .string ⟨#[49]⟩, .string ⟨#[49]⟩, .int .u8 1, .string ⟨#[]⟩, .slice (some ⟨g4 + 1, 0, none⟩) 32 32, .slice (some ⟨gr, 0, none⟩) 3 3, .slice (some ⟨u9.heap.size, 0, none⟩) 1 1, .slice none 0 0, .slice none 0 0, .slice none 0 0, .slice none 0 0, .slice none 0 0, .slice none 0 0] := (HG.out.stored 8 (.slice (some ⟨u9.heap.size, 0, none⟩) 1 1)).after_alloc _
  have hK1 : Kept (fun _ => False) w ((u9.setCell ⟨g4, 8, none⟩ (.slice (some ⟨u9.heap.size, 0, none⟩) 1 1)).alloc (.cells #[.int .u8 5, .string ⟨#[]⟩, .int .u8 0, .int .i64 0, .string ⟨#[]⟩, .string ⟨#[]⟩, .slice (some ⟨gb, 0, none⟩) 2 2] 28)) := (HK.out.setCell (p := ⟨g4, 8, none⟩) (.inr (HLT.out.2.2.2.2)) _).alloc _
  have hgc : g4 + 1 < u9.heap.size := HV.out.lt
  have Hga := Lib.hid (hk4.box Hga.out (fun h => by have := HLT.out; have := HGR.out; omega))
  have HIga := Lib.hid (hk4.box HIga.out (fun h => by have := HLT.out; have := HGR.out; omega))
  have Hgb := Lib.hid (hk4.box Hgb.out (fun h => by have := HLT.out; have := HGR.out; omega))
  have HIgb := Lib.hid (hk4.box HIgb.out (fun h => by have := HLT.out; have := HGR.out; omega))
  have HV := Lib.hid (hk4.box HV.out (fun h => by have := HLT.out; have := HGR.out; omega))
  have HR := Lib.hid (hk4.box HR.out (fun h => by have := HLT.out; have := HGR.out; omega))
  clear hk4 HK HG b0 b1 b2 b3 b4 b5 b6 y8 z8 hlg
  generalize (u9.setCell ⟨g4, 8, none⟩ (.slice (some ⟨u9.heap.size, 0, none⟩) 1 1)).alloc (.cells #[.int .u8 5, .string ⟨#[]⟩, .int .u8 0, .int .i64 0, .string ⟨#[]⟩, .string ⟨#[]⟩, .slice (some ⟨gb, 0, none⟩) 2 2] 28) = v9 at hC hG hK1 Hga HIga Hgb HIgb HV HR ⊢
  obtain ⟨gc, hgc'⟩ : ∃ g, g = u9.heap.size := ⟨_, rfl⟩
  rw [← hgc'] at hC hG hgc ⊢
  clear hgc'
  refine (natom10_walk ⟨#[100]⟩ _).mono ?_
  rintro e w10 ⟨rfl, hk1⟩
  have HK := Lib.hid (hK1.trans hk1 (fun _ _ h => h))
  have HG := Lib.hid (hk1.box hG (fun h => h))
  have HC := Lib.hid (hk1.box hC (fun h => h))
  have Hga := Lib.hid (hk1.box Hga.out (fun h => h))
  have HIga := Lib.hid (hk1.box HIga.out (fun h => h))
  have Hgb := Lib.hid (hk1.box Hgb.out (fun h => h))
  have HIgb := Lib.hid (hk1.box HIgb.out (fun h => h))
  have HV := Lib.hid (hk1.box HV.out (fun h => h))
  have HR := Lib.hid (hk1.box HR.out (fun h => h))
  have HGC := Lib.hid hgc
  clear hK1 hG hC hgc hk1
  have y11 := HG.out.cell 11
  have z11 := HG.out.free 11
  have y14 := HG.out.cell 14
  have z14 := HG.out.free 14
  have y5 := HG.out.cell 5
  have z5 := HG.out.free 5
  have hlg := HG.out.lt
  go_wp2_with fail
  have hsz : (((w10.setCell ⟨g4, 11, none⟩ (.slice (some ⟨w10.heap.size, 0, none⟩) 1 1)).setCell ⟨g4, 14, none⟩ (.slice (some ⟨w10.heap.size + 1, 0, none⟩) 2 2)).setCell ⟨g4, 5, none⟩ (.string ⟨#[83, 111, 109, 101, 32, 86, 101, 110, 100, 111, 114, 44, 32, 73, 110, 99, 46]⟩)).heap.size = w10.heap.size := by simp [World.setCell]
  have hk4 : Kept (fun b => b = g4) w10 (((((w10.setCell ⟨g4, 11, none⟩ (.slice (some ⟨w10.heap.size, 0, none⟩) 1 1)).setCell ⟨g4, 14, none⟩ (.slice (some ⟨w10.heap.size + 1, 0, none⟩) 2 2)).setCell ⟨g4, 5, none⟩ (.string ⟨#[83, 111, 109, 101, 32, 86, 101, 110, 100, 111, 114, 44, 32, 73, 110, 99, 46]⟩)).alloc (.cells #[.int .u8 1, .string ⟨#[100]⟩, .int .u8 0, .int .i64 0, .string ⟨#[]⟩, .string ⟨#[]⟩, .slice none 0 0] 28)).alloc (.cells #[.string ⟨#[47, 97]⟩, .string ⟨#[47, 98]⟩] 9)) := ((((Kept.refl (fun b => b = g4) w10).setCell (p := ⟨g4, 11, none⟩) (.inl rfl) _).setCell (p := ⟨g4, 14, none⟩) (.inl rfl) _).setCell (p := ⟨g4, 5, none⟩) (.inl rfl) _).alloc _ |>.alloc _
  have hS : Box (((((w10.setCell ⟨g4, 11, none⟩ (.slice (some ⟨w10.heap.size, 0, none⟩) 1 1)).setCell ⟨g4, 14, none⟩ (.slice (some ⟨w10.heap.size + 1, 0, none⟩) 2 2)).setCell ⟨g4, 5, none⟩ (.string ⟨#[83, 111, 109, 101, 32, 86, 101, 110, 100, 111, 114, 44, 32, 73, 110, 99, 46]⟩)).alloc (.cells #[.int .u8 1, .string ⟨#[100]⟩, .int .u8 0, .int .i64 0, .string ⟨#[]⟩, .string ⟨#[]⟩, .slice none 0 0] 28)).alloc (.cells #[.string ⟨#[47, 97]⟩, .string ⟨#[47, 98]⟩] 9)) w10.heap.size 28 #[.int .u8 1, .string ⟨#[100]⟩, .int .u8 0, .int .i64 0, .string ⟨#[]⟩, .string ⟨#[]⟩, .slice none 0 0] := by
    have h := (Box.made (((w10.setCell ⟨g4, 11, none⟩ (.slice (some ⟨w10.heap.size, 0, none⟩) 1 1)).setCell ⟨g4, 14, none⟩ (.slice (some ⟨w10.heap.size + 1, 0, none⟩) 2 2)).setCell ⟨g4, 5, none⟩ (.string ⟨#[83, 111, 109, 101, 32, 86, 101, 110, 100, 111, 114, 44, 32, 73, 110, 99, 46]⟩)) 28 #[.int .u8 1, .string ⟨#[100]⟩, .int .u8 0, .int .i64 0, .string ⟨#[]⟩, .string ⟨#[]⟩, .slice none 0 0]).after_alloc (.cells #[.string ⟨#[47, 97]⟩, .string ⟨#[47, 98]⟩] 9)
    rw [hsz] at h
    exact h
  have hF : Box (((((w10.setCell ⟨g4, 11, none⟩ (.slice (some ⟨w10.heap.size, 0, none⟩) 1 1)).setCell ⟨g4, 14, none⟩ (.slice (some ⟨w10.heap.size + 1, 0, none⟩) 2 2)).setCell ⟨g4, 5, none⟩ (.string ⟨#[83, 111, 109, 101, 32, 86, 101, 110, 100, 111, 114, 44, 32, 73, 110, 99, 46]⟩)).alloc (.cells #[.int .u8 1, .string ⟨#[100]⟩, .int .u8 0, .int .i64 0, .string ⟨#[]⟩, .string ⟨#[]⟩, .slice none 0 0] 28)).alloc (.cells #[.string ⟨#[47, 97]⟩, .string ⟨#[47, 98]⟩] 9)) (w10.heap.size + 1) 9 #[.string ⟨#[47, 97]⟩, .string ⟨#[47, 98]⟩] := by
    have h := Box.made ((((w10.setCell ⟨g4, 11, none⟩ (.slice (some ⟨w10.heap.size, 0, none⟩) 1 1)).setCell ⟨g4, 14, none⟩ (.slice (some ⟨w10.heap.size + 1, 0, none⟩) 2 2)).setCell ⟨g4, 5, none⟩ (.string ⟨#[83, 111, 109, 101, 32, 86, 101, 110, 100, 111, 114, 44, 32, 73, 110, 99, 46]⟩)).alloc (.cells #[.int .u8 1, .string ⟨#[100]⟩, .int .u8 0, .int .i64 0, .string ⟨#[]⟩, .string ⟨#[]⟩, .slice none 0 0] 28)) 9 #[.string ⟨#[47, 97]⟩, .string ⟨#[47, 98]⟩]
    rw [World.size_alloc, hsz] at h
    exact h
  have hG : Box (((((w10.setCell ⟨g4, 11, none⟩ (.slice (some ⟨w10.heap.size, 0, none⟩) 1 1)).setCell ⟨g4, 14, none⟩ (.slice (some ⟨w10.heap.size + 1, 0, none⟩) 2 2)).setCell ⟨g4, 5, none⟩ (.string ⟨#[83, 111, 109, 101, 32, 86, 101, 110, 100, 111, 114, 44, 32, 73, 110, 99, 46]⟩)).alloc (.cells #[.int .u8 1, .string ⟨#[100]⟩, .int .u8 0, .int .i64 0, .string ⟨#[]⟩, .string ⟨#[]⟩, .slice none 0 0] 28)).alloc (.cells #[.string ⟨#[47, 97]⟩, .string ⟨#[47, 98]⟩] 9)) g4 33 #[.string ⟨#[97]⟩, .int .i64 0, .string ⟨#[49]⟩, .string ⟨#[49]⟩, .int .u8 1, .string ⟨#[83, 111, 109, 101, 32, 86, 101, 110, 100, 111, 114, 44, 32, 73, 110, 99, 46]⟩, .slice (some ⟨g4 + 1, 0, none⟩) 32 32, .slice (some ⟨gr, 0, none⟩) 3 3, .slice (some ⟨gc, 0, none⟩) 1 1, .slice none 0 0, .slice none 0 0, .slice (some ⟨w10.heap.size, 0, none⟩) 1 1, .slice none 0 0, .slice none 0 0, .slice (some ⟨w10.heap.size + 1, 0, none⟩) 2 2] := ((((HG.out.stored 11 (.slice (some ⟨w10.heap.size, 0, none⟩) 1 1)).stored 14 (.slice (some ⟨w10.heap.size + 1, 0, none⟩) 2 2)).stored 5 (.string ⟨#[83, 111, 109, 101, 32, 86, 101, 110, 100, 111, 114, 44, 32, 73, 110, 99, 46]⟩)).after_alloc _).after_alloc _
  have hK1 : Kept (fun _ => False) w (((((w10.setCell ⟨g4, 11, none⟩ (.slice (some ⟨w10.heap.size, 0, none⟩) 1 1)).setCell ⟨g4, 14, none⟩ (.slice (some ⟨w10.heap.size + 1, 0, none⟩) 2 2)).setCell ⟨g4, 5, none⟩ (.string ⟨#[83, 111, 109, 101, 32, 86, 101, 110, 100, 111, 114, 44, 32, 73, 110, 99, 46]⟩)).alloc (.cells #[.int .u8 1, .string ⟨#[100]⟩, .int .u8 0, .int .i64 0, .string ⟨#[]⟩, .string ⟨#[]⟩, .slice none 0 0] 28)).alloc (.cells #[.string ⟨#[47, 97]⟩, .string ⟨#[47, 98]⟩] 9)) := ((((HK.out.setCell (p := ⟨g4, 11, none⟩) (.inr (HLT.out.2.2.2.2)) _).setCell (p := ⟨g4, 14, none⟩) (.inr (HLT.out.2.2.2.2)) _).setCell (p := ⟨g4, 5, none⟩) (.inr (HLT.out.2.2.2.2)) _).alloc _).alloc _
  have hgs : g4 + 1 < w10.heap.size := HV.out.lt
  have Hga := Lib.hid (hk4.box Hga.out (fun h => by have := HLT.out; have := HGR.out; have := HGC.out; omega))
  have HIga := Lib.hid (hk4.box HIga.out (fun h => by have := HLT.out; have := HGR.out; have := HGC.out; omega))
  have Hgb := Lib.hid (hk4.box Hgb.out (fun h => by have := HLT.out; have := HGR.out; have := HGC.out; omega))
  have HIgb := Lib.hid (hk4.box HIgb.out (fun h => by have := HLT.out; have := HGR.out; have := HGC.out; omega))
  have HV := Lib.hid (hk4.box HV.out (fun h => by have := HLT.out; have := HGR.out; have := HGC.out; omega))
  have HR := Lib.hid (hk4.box HR.out (fun h => by have := HLT.out; have := HGR.out; have := HGC.out; omega))
  have HC := Lib.hid (hk4.box HC.out (fun h => by have := HLT.out; have := HGR.out; have := HGC.out; omega))
  clear hk4 HK HG y11 z11 y14 z14 y5 z5 hlg hsz
  generalize ((((w10.setCell ⟨g4, 11, none⟩ (.slice (some ⟨w10.heap.size, 0, none⟩) 1 1)).setCell ⟨g4, 14, none⟩ (.slice (some ⟨w10.heap.size + 1, 0, none⟩) 2 2)).setCell ⟨g4, 5, none⟩ (.string ⟨#[83, 111, 109, 101, 32, 86, 101, 110, 100, 111, 114, 44, 32, 73, 110, 99, 46]⟩)).alloc (.cells #[.int .u8 1, .string ⟨#[100]⟩, .int .u8 0, .int .i64 0, .string ⟨#[]⟩, .string ⟨#[]⟩, .slice none 0 0] 28)).alloc (.cells #[.string ⟨#[47, 97]⟩, .string ⟨#[47, 98]⟩] 9) = u11 at hS hF hG hK1 Hga HIga Hgb HIgb HV HR HC ⊢
  obtain ⟨gs, hgs'⟩ : ∃ g, g = w10.heap.size := ⟨_, rfl⟩
  rw [← hgs'] at hS hF hG hgs ⊢
  clear hgs'
  have HK := Lib.hid hK1
  have HG := Lib.hid hG
  have HS := Lib.hid hS
  have HF := Lib.hid hF
  have HGS := Lib.hid hgs
  clear hK1 hG hS hF hgs
  go_loopw [5] (fun v5 wr => ∃ (i : Nat) (L : List De), v5 = .int .i64 (i : Int) ∧ i ≤ 32 ∧ Hid (L.length = 32) ∧ Hid (∀ k, k < i → L[k]? = some xDe) ∧ Hid (Box wr (g4 + 1) 25 (cellsDe L).toArray) ∧ Hid (Kept (fun b => b = g4 + 1) u11 wr)) (fun v5 _ => 32 - (intOf v5).toNat)
  case atStart => exact ⟨0, List.replicate 32 zDe, rfl, Nat.zero_le _, Lib.hid (by simp), Lib.hid (fun k hk => by omega), HV, Lib.hid (Kept.refl _ _)⟩
  case round =>
    obtain ⟨i, L, rfl, hi, HL, HX, HB, HKL⟩ := hrel
    rename World => wr
    by_cases hlt : i < 32
    · obtain ⟨d, hd⟩ : ∃ d, L[i]? = some d := ⟨_, List.getElem?_eq_getElem (by have := HL.out; omega)⟩
      have c0 : wr.cell? ⟨g4 + 1, i * 5, none⟩ = some (.string d.nm) := by rw [HB.out.cell]; simpa using cellsDe_at L i d hd 0 _ rfl
      have f0 := HB.out.free (i * 5)
      have c1 : wr.cell? ⟨g4 + 1, i * 5 + 1, none⟩ = some (.int .u8 (d.o : Int)) := by rw [HB.out.cell]; simpa using cellsDe_at L i d hd 1 _ rfl
      have f1 := HB.out.free (i * 5 + 1)
      have c2 : wr.cell? ⟨g4 + 1, i * 5 + 2, none⟩ = some (.int .i64 d.n) := by rw [HB.out.cell]; simpa using cellsDe_at L i d hd 2 _ rfl
      have f2 := HB.out.free (i * 5 + 2)
      have c3 : wr.cell? ⟨g4 + 1, i * 5 + 3, none⟩ = some (.string d.v) := by rw [HB.out.cell]; simpa using cellsDe_at L i d hd 3 _ rfl
      have f3 := HB.out.free (i * 5 + 3)
      have c4 : wr.cell? ⟨g4 + 1, i * 5 + 4, none⟩ = some (.string d.r) := by rw [HB.out.cell]; simpa using cellsDe_at L i d hd 4 _ rfl
      have f4 := HB.out.free (i * 5 + 4)
      have hiI : (i : Int) < 32 := by omega
      have y6 := (HKL.out.box HG.out (fun h => by omega)).cell 6
      clear hd
      go_wp2_with fail
      go_roundw
      case rel => exact ⟨i + 1, L.set i xDe, by go_num, by omega, Lib.hid (by rw [List.length_set]; exact HL.out), Lib.hid (set_next (by have := HL.out; omega) HX.out), Lib.hid (HB.out.setDe (by have := HL.out; omega) xDe), Lib.hid (((((HKL.out.setCell (p := ⟨g4 + 1, i * 5, none⟩) (.inl rfl) _).setCell (p := ⟨g4 + 1, i * 5 + 1, none⟩) (.inl rfl) _).setCell (p := ⟨g4 + 1, i * 5 + 2, none⟩) (.inl rfl) _).setCell (p := ⟨g4 + 1, i * 5 + 3, none⟩) (.inl rfl) _).setCell (p := ⟨g4 + 1, i * 5 + 4, none⟩) (.inl rfl) _)⟩
      case measure => simp [intOf]; omega
    · obtain rfl : i = 32 := by omega
      have hL : L = List.replicate 32 xDe := all_replicate HL.out HX.out
      subst hL
      rename World => wa
      have hne := HLT.out
      have hn2 := HGR.out
      have hn3 := HGC.out
      have hn4 := HGS.out
      have hbv := HB.out
      have hk12 : Kept (fun _ => False) w wa := HK.out.trans HKL.out (fun i hi h => by omega)
      have hin : PkIn wa goodPk (goodSl (g4 + 1) gr gc gs (gs + 1)) := goodIn (HKL.out.box Hga.out (fun h => by omega)) (HKL.out.box Hgb.out (fun h => by omega)) hbv (HKL.out.box HR.out (fun h => by omega)) (HKL.out.box HC.out (fun h => by omega)) (HKL.out.box HS.out (fun h => by omega)) (HKL.out.box HF.out (fun h => by omega))
      have HWa := Lib.hid (HW.out.kept hk12)
      have HKw := Lib.hid hk12
      obtain ⟨vg, hvg⟩ : ∃ v : Array Value, v = pkA goodPk (goodSl (g4 + 1) gr gc gs (gs + 1)) := ⟨_, rfl⟩
      have hGv : Box wa g4 33 vg := by rw [hvg]; exact HKL.out.box HG.out (fun h => by omega)
      have hzv : vg.size = 15 := by rw [hvg]; rfl
      have HMG := Lib.hid (fun (W : World) (hk : Kept (fun _ => False) wa W) => show Calls Tryd.prog 7 #[.agg vg] W fun e w' => e = .returned (.bool true) ∧ Kept (fun _ => False) W w' from by rw [hvg]; exact may_good _ W (hin.kept hk) (HWa.out.kept hk))
      have HCG := Lib.hid (fun (W : World) (hk : Kept (fun _ => False) wa W) => show Calls Tryd.prog 8 #[.agg vg] W fun e w' => (∃ s' : Sl, e = .returned (.agg (pkA goodPk s')) ∧ PkN W.heap.size w' goodPk s') ∧ Kept (fun _ => False) W w' from by rw [hvg]; exact refcopy10_walk goodPk _ W (hin.kept hk) goodsmall)
      have HLG := Lib.hid (fun (W : World) (hk : Kept (fun _ => False) wa W) => run_loadPk (hk.box hGv (fun h => h)) hzv)
      have HIa := Lib.hid (HKL.out.box HIga.out (fun h => by omega))
      have HIb := Lib.hid (HKL.out.box HIgb.out (fun h => by omega))
      have HAa := Lib.hid (HKL.out.box Hga.out (fun h => by omega))
      have HAb := Lib.hid (HKL.out.box Hgb.out (fun h => by omega))
      clear hvg hGv hzv hin hk12 hne hn2 hn3 hn4 hbv HG HK HL HX HB HKL HLT HGR HGC HGS HR HC HS HF HV Hga HIga Hgb HIgb HW hi hlt
      have HKa := Lib.hid (Kept.refl (fun _ => False) wa)
      have la := HLG.out _ HKa.out
      go_wp2_with fail
      refine (HMG.out _ HKa.out).mono ?_
      rintro e wb ⟨rfl, hk1⟩
      have HKa := Lib.hid (HKa.out.trans hk1 (fun _ _ h => h))
      clear hk1 la
      go_wp2_with fail
      refine (one10_walk _).mono ?_
      rintro e wc ⟨rfl, hwc⟩
      have hk1 : Kept (fun _ => False) wb wc := by rw [hwc]; exact (Kept.refl _ _).alloc _
      have HKa := Lib.hid (HKa.out.trans hk1 (fun _ _ h => h))
      clear hk1 hwc
      go_wp2_with fail
      refine (may_one _ (HWa.out.kept HKa.out)).mono ?_
      rintro e wd ⟨rfl, hk1⟩
      have HKa := Lib.hid (HKa.out.trans hk1 (fun _ _ h => h))
      clear hk1
      go_wp2_with fail
      go_loopw [6] (fun v6 wr => ∃ i : Nat, v6 = .int .i64 (i : Int) ∧ i ≤ 19 ∧ Hid (Kept (fun _ => False) wa wr)) (fun v6 _ => 19 - (intOf v6).toNat)
      case atStart => exact ⟨0, rfl, Nat.zero_le _, HKa⟩
      case round =>
        repeat clear HKa
        obtain ⟨i, rfl, hi, HKa⟩ := hrel
        rename World => wr
        by_cases hlt : i < 19
        · refine names_cases hlt HWa HCG HLG HIa HIb HAa HAb HKa ?_
          intro u0 u7 u8 u61 u62 u63 u64 u65 u66 u67 u68 u69 u70 u71 u72 u73 u74 u75 u76 u77 u78 u79 u80 u81 u82 u83 u84 u85 u86 u87 u88 u89 u90 u91 u92 u93 u94 u95 u96 u97 u98 u99 u100 u101 u102 u103 u104 u105 u106 u107 u108 u109 u110 u111 u112 u113 u114 u115 u116 u117 u118 u119 u120 u121 u122 u123 u124 u125 u126 u127 u128 u129 u130 u131 u132 u133 u134 u135 u136 u137 u138 u139 u140 u141 u142 u143 u144 u145 u146 u147 u148 u149 u150 u151 u152 u153 u154 u155 u156 u157 u158 u159 u160 w' hkq
          change _ ∧ _
          go_roundw
          case rel =>
            first
              | exact ⟨i + 1, by go_num, by omega, Lib.hid hkq⟩
              | ((repeat apply Exists.intro); refine ⟨?_, rfl⟩; exact ⟨i + 1, by go_num, by omega, Lib.hid hkq⟩)
              | ((repeat' apply Exists.intro); refine ⟨⟨?_, ?_, ?_⟩, rfl⟩; all_goals first | exact Lib.hid hkq | omega | rfl | go_num)
              | trace_state
          case measure => simp [intOf]; omega
        · obtain rfl : i = 19 := by omega
          clear hi hlt HMG HCG HLG HIa HIb HAa HAb
          go_wp2_with fail
          refine (one10_walk _).mono ?_
          rintro e wy ⟨rfl, hwc⟩
          have hk1 : Kept (fun _ => False) wr wy := by rw [hwc]; exact (Kept.refl _ _).alloc _
          have HKa := Lib.hid (HKa.out.trans hk1 (fun _ _ h => h))
          clear hk1 hwc
          go_wp2_with fail
          refine (one10_walk _).mono ?_
          rintro e wz ⟨rfl, hwc⟩
          have hk1 : Kept (fun _ => False) wy wz := by rw [hwc]; exact (Kept.refl _ _).alloc _
          have HKa := Lib.hid (HKa.out.trans hk1 (fun _ _ h => h))
          clear hk1 hwc
          have ll := run_loadPk (((Box.made wz 33 #[.string ⟨#[111, 108, 100]⟩, .int .i64 0, .string ⟨#[48]⟩, .string ⟨#[49]⟩, .int .u8 1, .string ⟨#[]⟩, .slice none 0 0, .slice none 0 0, .slice none 0 0, .slice none 0 0, .slice none 0 0, .slice none 0 0, .slice none 0 0, .slice none 0 0, .slice none 0 0]).after_alloc (.cells #[.string ⟨#[97]⟩, .int .i64 0, .string ⟨#[49]⟩, .string ⟨#[49]⟩, .int .u8 1, .string ⟨#[]⟩, .slice none 0 0, .slice none 0 0, .slice none 0 0, .slice (some ⟨wz.heap.size + 1 + 1, 0, none⟩) 1 1, .slice none 0 0, .slice none 0 0, .slice none 0 0, .slice none 0 0, .slice none 0 0] 33)).after_alloc (.cells #[.string ⟨#[111, 108, 100]⟩, .int .u8 1, .int .i64 0, .string ⟨#[49]⟩, .string ⟨#[]⟩] 25)) rfl
          go_wp2_with fail
          have hL : Box ((((wz.alloc (.cells #[.string ⟨#[111, 108, 100]⟩, .int .i64 0, .string ⟨#[48]⟩, .string ⟨#[49]⟩, .int .u8 1, .string ⟨#[]⟩, .slice none 0 0, .slice none 0 0, .slice none 0 0, .slice none 0 0, .slice none 0 0, .slice none 0 0, .slice none 0 0, .slice none 0 0, .slice none 0 0] 33)).alloc (.cells #[.string ⟨#[97]⟩, .int .i64 0, .string ⟨#[49]⟩, .string ⟨#[49]⟩, .int .u8 1, .string ⟨#[]⟩, .slice none 0 0, .slice none 0 0, .slice none 0 0, .slice (some ⟨wz.heap.size + 1 + 1, 0, none⟩) 1 1, .slice none 0 0, .slice none 0 0, .slice none 0 0, .slice none 0 0, .slice none 0 0] 33)).alloc (.cells #[.string ⟨#[111, 108, 100]⟩, .int .u8 1, .int .i64 0, .string ⟨#[49]⟩, .string ⟨#[]⟩] 25)).alloc (.cells #[.string ⟨#[111, 108, 100]⟩, .int .i64 0, .string ⟨#[50]⟩, .string ⟨#[49]⟩, .int .u8 1, .string ⟨#[]⟩, .slice none 0 0, .slice none 0 0, .slice none 0 0, .slice none 0 0, .slice none 0 0, .slice none 0 0, .slice none 0 0, .slice none 0 0, .slice none 0 0] 33)) wz.heap.size 33 #[.string ⟨#[111, 108, 100]⟩, .int .i64 0, .string ⟨#[48]⟩, .string ⟨#[49]⟩, .int .u8 1, .string ⟨#[]⟩, .slice none 0 0, .slice none 0 0, .slice none 0 0, .slice none 0 0, .slice none 0 0, .slice none 0 0, .slice none 0 0, .slice none 0 0, .slice none 0 0] := (((Box.made wz 33 #[.string ⟨#[111, 108, 100]⟩, .int .i64 0, .string ⟨#[48]⟩, .string ⟨#[49]⟩, .int .u8 1, .string ⟨#[]⟩, .slice none 0 0, .slice none 0 0, .slice none 0 0, .slice none 0 0, .slice none 0 0, .slice none 0 0, .slice none 0 0, .slice none 0 0, .slice none 0 0]).after_alloc _).after_alloc _).after_alloc _
          have hH : Box ((((wz.alloc (.cells #[.string ⟨#[111, 108, 100]⟩, .int .i64 0, .string ⟨#[48]⟩, .string ⟨#[49]⟩, .int .u8 1, .string ⟨#[]⟩, .slice none 0 0, .slice none 0 0, .slice none 0 0, .slice none 0 0, .slice none 0 0, .slice none 0 0, .slice none 0 0, .slice none 0 0, .slice none 0 0] 33)).alloc (.cells #[.string ⟨#[97]⟩, .int .i64 0, .string ⟨#[49]⟩, .string ⟨#[49]⟩, .int .u8 1, .string ⟨#[]⟩, .slice none 0 0, .slice none 0 0, .slice none 0 0, .slice (some ⟨wz.heap.size + 1 + 1, 0, none⟩) 1 1, .slice none 0 0, .slice none 0 0, .slice none 0 0, .slice none 0 0, .slice none 0 0] 33)).alloc (.cells #[.string ⟨#[111, 108, 100]⟩, .int .u8 1, .int .i64 0, .string ⟨#[49]⟩, .string ⟨#[]⟩] 25)).alloc (.cells #[.string ⟨#[111, 108, 100]⟩, .int .i64 0, .string ⟨#[50]⟩, .string ⟨#[49]⟩, .int .u8 1, .string ⟨#[]⟩, .slice none 0 0, .slice none 0 0, .slice none 0 0, .slice none 0 0, .slice none 0 0, .slice none 0 0, .slice none 0 0, .slice none 0 0, .slice none 0 0] 33)) (wz.heap.size + 1) 33 #[.string ⟨#[97]⟩, .int .i64 0, .string ⟨#[49]⟩, .string ⟨#[49]⟩, .int .u8 1, .string ⟨#[]⟩, .slice none 0 0, .slice none 0 0, .slice none 0 0, .slice (some ⟨wz.heap.size + 1 + 1, 0, none⟩) 1 1, .slice none 0 0, .slice none 0 0, .slice none 0 0, .slice none 0 0, .slice none 0 0] := by
            have h := ((Box.made (wz.alloc (.cells #[.string ⟨#[111, 108, 100]⟩, .int .i64 0, .string ⟨#[48]⟩, .string ⟨#[49]⟩, .int .u8 1, .string ⟨#[]⟩, .slice none 0 0, .slice none 0 0, .slice none 0 0, .slice none 0 0, .slice none 0 0, .slice none 0 0, .slice none 0 0, .slice none 0 0, .slice none 0 0] 33)) 33 #[.string ⟨#[97]⟩, .int .i64 0, .string ⟨#[49]⟩, .string ⟨#[49]⟩, .int .u8 1, .string ⟨#[]⟩, .slice none 0 0, .slice none 0 0, .slice none 0 0, .slice (some ⟨wz.heap.size + 1 + 1, 0, none⟩) 1 1, .slice none 0 0, .slice none 0 0, .slice none 0 0, .slice none 0 0, .slice none 0 0]).after_alloc (.cells #[.string ⟨#[111, 108, 100]⟩, .int .u8 1, .int .i64 0, .string ⟨#[49]⟩, .string ⟨#[]⟩] 25)).after_alloc (.cells #[.string ⟨#[111, 108, 100]⟩, .int .i64 0, .string ⟨#[50]⟩, .string ⟨#[49]⟩, .int .u8 1, .string ⟨#[]⟩, .slice none 0 0, .slice none 0 0, .slice none 0 0, .slice none 0 0, .slice none 0 0, .slice none 0 0, .slice none 0 0, .slice none 0 0, .slice none 0 0] 33)
            rw [World.size_alloc] at h
            exact h
          have hD : Box ((((wz.alloc (.cells #[.string ⟨#[111, 108, 100]⟩, .int .i64 0, .string ⟨#[48]⟩, .string ⟨#[49]⟩, .int .u8 1, .string ⟨#[]⟩, .slice none 0 0, .slice none 0 0, .slice none 0 0, .slice none 0 0, .slice none 0 0, .slice none 0 0, .slice none 0 0, .slice none 0 0, .slice none 0 0] 33)).alloc (.cells #[.string ⟨#[97]⟩, .int .i64 0, .string ⟨#[49]⟩, .string ⟨#[49]⟩, .int .u8 1, .string ⟨#[]⟩, .slice none 0 0, .slice none 0 0, .slice none 0 0, .slice (some ⟨wz.heap.size + 1 + 1, 0, none⟩) 1 1, .slice none 0 0, .slice none 0 0, .slice none 0 0, .slice none 0 0, .slice none 0 0] 33)).alloc (.cells #[.string ⟨#[111, 108, 100]⟩, .int .u8 1, .int .i64 0, .string ⟨#[49]⟩, .string ⟨#[]⟩] 25)).alloc (.cells #[.string ⟨#[111, 108, 100]⟩, .int .i64 0, .string ⟨#[50]⟩, .string ⟨#[49]⟩, .int .u8 1, .string ⟨#[]⟩, .slice none 0 0, .slice none 0 0, .slice none 0 0, .slice none 0 0, .slice none 0 0, .slice none 0 0, .slice none 0 0, .slice none 0 0, .slice none 0 0] 33)) (wz.heap.size + 1 + 1) 25 #[.string ⟨#[111, 108, 100]⟩, .int .u8 1, .int .i64 0, .string ⟨#[49]⟩, .string ⟨#[]⟩] := by
            have h := (Box.made ((wz.alloc (.cells #[.string ⟨#[111, 108, 100]⟩, .int .i64 0, .string ⟨#[48]⟩, .string ⟨#[49]⟩, .int .u8 1, .string ⟨#[]⟩, .slice none 0 0, .slice none 0 0, .slice none 0 0, .slice none 0 0, .slice none 0 0, .slice none 0 0, .slice none 0 0, .slice none 0 0, .slice none 0 0] 33)).alloc (.cells #[.string ⟨#[97]⟩, .int .i64 0, .string ⟨#[49]⟩, .string ⟨#[49]⟩, .int .u8 1, .string ⟨#[]⟩, .slice none 0 0, .slice none 0 0, .slice none 0 0, .slice (some ⟨wz.heap.size + 1 + 1, 0, none⟩) 1 1, .slice none 0 0, .slice none 0 0, .slice none 0 0, .slice none 0 0, .slice none 0 0] 33)) 25 #[.string ⟨#[111, 108, 100]⟩, .int .u8 1, .int .i64 0, .string ⟨#[49]⟩, .string ⟨#[]⟩]).after_alloc (.cells #[.string ⟨#[111, 108, 100]⟩, .int .i64 0, .string ⟨#[50]⟩, .string ⟨#[49]⟩, .int .u8 1, .string ⟨#[]⟩, .slice none 0 0, .slice none 0 0, .slice none 0 0, .slice none 0 0, .slice none 0 0, .slice none 0 0, .slice none 0 0, .slice none 0 0, .slice none 0 0] 33)
            rw [World.size_alloc, World.size_alloc] at h
            exact h
          have hO : Box ((((wz.alloc (.cells #[.string ⟨#[111, 108, 100]⟩, .int .i64 0, .string ⟨#[48]⟩, .string ⟨#[49]⟩, .int .u8 1, .string ⟨#[]⟩, .slice none 0 0, .slice none 0 0, .slice none 0 0, .slice none 0 0, .slice none 0 0, .slice none 0 0, .slice none 0 0, .slice none 0 0, .slice none 0 0] 33)).alloc (.cells #[.string ⟨#[97]⟩, .int .i64 0, .string ⟨#[49]⟩, .string ⟨#[49]⟩, .int .u8 1, .string ⟨#[]⟩, .slice none 0 0, .slice none 0 0, .slice none 0 0, .slice (some ⟨wz.heap.size + 1 + 1, 0, none⟩) 1 1, .slice none 0 0, .slice none 0 0, .slice none 0 0, .slice none 0 0, .slice none 0 0] 33)).alloc (.cells #[.string ⟨#[111, 108, 100]⟩, .int .u8 1, .int .i64 0, .string ⟨#[49]⟩, .string ⟨#[]⟩] 25)).alloc (.cells #[.string ⟨#[111, 108, 100]⟩, .int .i64 0, .string ⟨#[50]⟩, .string ⟨#[49]⟩, .int .u8 1, .string ⟨#[]⟩, .slice none 0 0, .slice none 0 0, .slice none 0 0, .slice none 0 0, .slice none 0 0, .slice none 0 0, .slice none 0 0, .slice none 0 0, .slice none 0 0] 33)) (wz.heap.size + 1 + 1 + 1) 33 #[.string ⟨#[111, 108, 100]⟩, .int .i64 0, .string ⟨#[50]⟩, .string ⟨#[49]⟩, .int .u8 1, .string ⟨#[]⟩, .slice none 0 0, .slice none 0 0, .slice none 0 0, .slice none 0 0, .slice none 0 0, .slice none 0 0, .slice none 0 0, .slice none 0 0, .slice none 0 0] := by
            have h := Box.made (((wz.alloc (.cells #[.string ⟨#[111, 108, 100]⟩, .int .i64 0, .string ⟨#[48]⟩, .string ⟨#[49]⟩, .int .u8 1, .string ⟨#[]⟩, .slice none 0 0, .slice none 0 0, .slice none 0 0, .slice none 0 0, .slice none 0 0, .slice none 0 0, .slice none 0 0, .slice none 0 0, .slice none 0 0] 33)).alloc (.cells #[.string ⟨#[97]⟩, .int .i64 0, .string ⟨#[49]⟩, .string ⟨#[49]⟩, .int .u8 1, .string ⟨#[]⟩, .slice none 0 0, .slice none 0 0, .slice none 0 0, .slice (some ⟨wz.heap.size + 1 + 1, 0, none⟩) 1 1, .slice none 0 0, .slice none 0 0, .slice none 0 0, .slice none 0 0, .slice none 0 0] 33)).alloc (.cells #[.string ⟨#[111, 108, 100]⟩, .int .u8 1, .int .i64 0, .string ⟨#[49]⟩, .string ⟨#[]⟩] 25)) 33 #[.string ⟨#[111, 108, 100]⟩, .int .i64 0, .string ⟨#[50]⟩, .string ⟨#[49]⟩, .int .u8 1, .string ⟨#[]⟩, .slice none 0 0, .slice none 0 0, .slice none 0 0, .slice none 0 0, .slice none 0 0, .slice none 0 0, .slice none 0 0, .slice none 0 0, .slice none 0 0]
            rw [World.size_alloc, World.size_alloc, World.size_alloc] at h
            exact h
          have hk3 : Kept (fun _ => False) wa ((((wz.alloc (.cells #[.string ⟨#[111, 108, 100]⟩, .int .i64 0, .string ⟨#[48]⟩, .string ⟨#[49]⟩, .int .u8 1, .string ⟨#[]⟩, .slice none 0 0, .slice none 0 0, .slice none 0 0, .slice none 0 0, .slice none 0 0, .slice none 0 0, .slice none 0 0, .slice none 0 0, .slice none 0 0] 33)).alloc (.cells #[.string ⟨#[97]⟩, .int .i64 0, .string ⟨#[49]⟩, .string ⟨#[49]⟩, .int .u8 1, .string ⟨#[]⟩, .slice none 0 0, .slice none 0 0, .slice none 0 0, .slice (some ⟨wz.heap.size + 1 + 1, 0, none⟩) 1 1, .slice none 0 0, .slice none 0 0, .slice none 0 0, .slice none 0 0, .slice none 0 0] 33)).alloc (.cells #[.string ⟨#[111, 108, 100]⟩, .int .u8 1, .int .i64 0, .string ⟨#[49]⟩, .string ⟨#[]⟩] 25)).alloc (.cells #[.string ⟨#[111, 108, 100]⟩, .int .i64 0, .string ⟨#[50]⟩, .string ⟨#[49]⟩, .int .u8 1, .string ⟨#[]⟩, .slice none 0 0, .slice none 0 0, .slice none 0 0, .slice none 0 0, .slice none 0 0, .slice none 0 0, .slice none 0 0, .slice none 0 0, .slice none 0 0] 33)) := (((HKa.out.alloc _).alloc _).alloc _).alloc _
          generalize (((wz.alloc (.cells #[.string ⟨#[111, 108, 100]⟩, .int .i64 0, .string ⟨#[48]⟩, .string ⟨#[49]⟩, .int .u8 1, .string ⟨#[]⟩, .slice none 0 0, .slice none 0 0, .slice none 0 0, .slice none 0 0, .slice none 0 0, .slice none 0 0, .slice none 0 0, .slice none 0 0, .slice none 0 0] 33)).alloc (.cells #[.string ⟨#[97]⟩, .int .i64 0, .string ⟨#[49]⟩, .string ⟨#[49]⟩, .int .u8 1, .string ⟨#[]⟩, .slice none 0 0, .slice none 0 0, .slice none 0 0, .slice (some ⟨wz.heap.size + 1 + 1, 0, none⟩) 1 1, .slice none 0 0, .slice none 0 0, .slice none 0 0, .slice none 0 0, .slice none 0 0] 33)).alloc (.cells #[.string ⟨#[111, 108, 100]⟩, .int .u8 1, .int .i64 0, .string ⟨#[49]⟩, .string ⟨#[]⟩] 25)).alloc (.cells #[.string ⟨#[111, 108, 100]⟩, .int .i64 0, .string ⟨#[50]⟩, .string ⟨#[49]⟩, .int .u8 1, .string ⟨#[]⟩, .slice none 0 0, .slice none 0 0, .slice none 0 0, .slice none 0 0, .slice none 0 0, .slice none 0 0, .slice none 0 0, .slice none 0 0, .slice none 0 0] 33) = x1 at hL hH hD hO hk3 ⊢
          obtain ⟨gl, hgl⟩ : ∃ g, g = wz.heap.size := ⟨_, rfl⟩
          rw [← hgl] at hL hH hD hO ⊢
          clear hgl ll HKa
          refine (one10_walk _).mono ?_
          rintro e x2 ⟨rfl, hwc⟩
          have hk1 : Kept (fun _ => False) x1 x2 := by rw [hwc]; exact (Kept.refl _ _).alloc _
          have hL := hk1.box hL (fun h => h)
          have hH := hk1.box hH (fun h => h)
          have hD := hk1.box hD (fun h => h)
          have hO := hk1.box hO (fun h => h)
          have HKa := Lib.hid (hk3.trans hk1 (fun _ _ h => h))
          have HL := Lib.hid hL
          have HH := Lib.hid hH
          have HD := Lib.hid hD
          have HO := Lib.hid hO
          clear hk1 hwc hk3 hL hH hD hO
          go_wp2_with fail
          have hL := (HL.out.after_alloc (.cells #[.string ⟨#[97]⟩, .int .i64 0, .string ⟨#[49]⟩, .string ⟨#[49]⟩, .int .u8 1, .string ⟨#[]⟩, .slice (some ⟨x2.heap.size + 1, 0, none⟩) 1 1, .slice none 0 0, .slice none 0 0, .slice none 0 0, .slice none 0 0, .slice none 0 0, .slice none 0 0, .slice none 0 0, .slice none 0 0] 33)).after_alloc (.cells #[.string ⟨#[111, 108, 100]⟩, .int .u8 2, .int .i64 0, .string ⟨#[48]⟩, .string ⟨#[]⟩] 25)
          have hH := (HH.out.after_alloc (.cells #[.string ⟨#[97]⟩, .int .i64 0, .string ⟨#[49]⟩, .string ⟨#[49]⟩, .int .u8 1, .string ⟨#[]⟩, .slice (some ⟨x2.heap.size + 1, 0, none⟩) 1 1, .slice none 0 0, .slice none 0 0, .slice none 0 0, .slice none 0 0, .slice none 0 0, .slice none 0 0, .slice none 0 0, .slice none 0 0] 33)).after_alloc (.cells #[.string ⟨#[111, 108, 100]⟩, .int .u8 2, .int .i64 0, .string ⟨#[48]⟩, .string ⟨#[]⟩] 25)
          have hD := (HD.out.after_alloc (.cells #[.string ⟨#[97]⟩, .int .i64 0, .string ⟨#[49]⟩, .string ⟨#[49]⟩, .int .u8 1, .string ⟨#[]⟩, .slice (some ⟨x2.heap.size + 1, 0, none⟩) 1 1, .slice none 0 0, .slice none 0 0, .slice none 0 0, .slice none 0 0, .slice none 0 0, .slice none 0 0, .slice none 0 0, .slice none 0 0] 33)).after_alloc (.cells #[.string ⟨#[111, 108, 100]⟩, .int .u8 2, .int .i64 0, .string ⟨#[48]⟩, .string ⟨#[]⟩] 25)
          have hO := (HO.out.after_alloc (.cells #[.string ⟨#[97]⟩, .int .i64 0, .string ⟨#[49]⟩, .string ⟨#[49]⟩, .int .u8 1, .string ⟨#[]⟩, .slice (some ⟨x2.heap.size + 1, 0, none⟩) 1 1, .slice none 0 0, .slice none 0 0, .slice none 0 0, .slice none 0 0, .slice none 0 0, .slice none 0 0, .slice none 0 0, .slice none 0 0] 33)).after_alloc (.cells #[.string ⟨#[111, 108, 100]⟩, .int .u8 2, .int .i64 0, .string ⟨#[48]⟩, .string ⟨#[]⟩] 25)
          have hV := (Box.made x2 33 #[.string ⟨#[97]⟩, .int .i64 0, .string ⟨#[49]⟩, .string ⟨#[49]⟩, .int .u8 1, .string ⟨#[]⟩, .slice (some ⟨x2.heap.size + 1, 0, none⟩) 1 1, .slice none 0 0, .slice none 0 0, .slice none 0 0, .slice none 0 0, .slice none 0 0, .slice none 0 0, .slice none 0 0, .slice none 0 0]).after_alloc (.cells #[.string ⟨#[111, 108, 100]⟩, .int .u8 2, .int .i64 0, .string ⟨#[48]⟩, .string ⟨#[]⟩] 25)
          have hk3 := (HKa.out.alloc (.cells #[.string ⟨#[97]⟩, .int .i64 0, .string ⟨#[49]⟩, .string ⟨#[49]⟩, .int .u8 1, .string ⟨#[]⟩, .slice (some ⟨x2.heap.size + 1, 0, none⟩) 1 1, .slice none 0 0, .slice none 0 0, .slice none 0 0, .slice none 0 0, .slice none 0 0, .slice none 0 0, .slice none 0 0, .slice none 0 0] 33)).alloc (.cells #[.string ⟨#[111, 108, 100]⟩, .int .u8 2, .int .i64 0, .string ⟨#[48]⟩, .string ⟨#[]⟩] 25)
          generalize (x2.alloc (.cells #[.string ⟨#[97]⟩, .int .i64 0, .string ⟨#[49]⟩, .string ⟨#[49]⟩, .int .u8 1, .string ⟨#[]⟩, .slice (some ⟨x2.heap.size + 1, 0, none⟩) 1 1, .slice none 0 0, .slice none 0 0, .slice none 0 0, .slice none 0 0, .slice none 0 0, .slice none 0 0, .slice none 0 0, .slice none 0 0] 33)).alloc (.cells #[.string ⟨#[111, 108, 100]⟩, .int .u8 2, .int .i64 0, .string ⟨#[48]⟩, .string ⟨#[]⟩] 25) = x3 at hL hH hD hO hV hk3 ⊢
          obtain ⟨gx, hgx⟩ : ∃ g, g = x2.heap.size := ⟨_, rfl⟩
          rw [← hgx] at hV ⊢
          obtain ⟨gv, hgv⟩ : ∃ g, g = gx + 1 := ⟨_, rfl⟩
          rw [← hgv] at hV
          clear HKa HL HH HD HO hgx hgv
          obtain ⟨vl, hvl⟩ : ∃ v : Array Value, v = #[.string ⟨#[111, 108, 100]⟩, .int .i64 0, .string ⟨#[48]⟩, .string ⟨#[49]⟩, .int .u8 1, .string ⟨#[]⟩, .slice none 0 0, .slice none 0 0, .slice none 0 0, .slice none 0 0, .slice none 0 0, .slice none 0 0, .slice none 0 0, .slice none 0 0, .slice none 0 0] := ⟨_, rfl⟩
          obtain ⟨vh, hvh⟩ : ∃ v : Array Value, v = #[.string ⟨#[97]⟩, .int .i64 0, .string ⟨#[49]⟩, .string ⟨#[49]⟩, .int .u8 1, .string ⟨#[]⟩, .slice none 0 0, .slice none 0 0, .slice none 0 0, .slice (some ⟨gl + 1 + 1, 0, none⟩) 1 1, .slice none 0 0, .slice none 0 0, .slice none 0 0, .slice none 0 0, .slice none 0 0] := ⟨_, rfl⟩
          obtain ⟨vo, hvo⟩ : ∃ v : Array Value, v = #[.string ⟨#[111, 108, 100]⟩, .int .i64 0, .string ⟨#[50]⟩, .string ⟨#[49]⟩, .int .u8 1, .string ⟨#[]⟩, .slice none 0 0, .slice none 0 0, .slice none 0 0, .slice none 0 0, .slice none 0 0, .slice none 0 0, .slice none 0 0, .slice none 0 0, .slice none 0 0] := ⟨_, rfl⟩
          obtain ⟨vv, hvv⟩ : ∃ v : Array Value, v = #[.string ⟨#[97]⟩, .int .i64 0, .string ⟨#[49]⟩, .string ⟨#[49]⟩, .int .u8 1, .string ⟨#[]⟩, .slice (some ⟨gv, 0, none⟩) 1 1, .slice none 0 0, .slice none 0 0, .slice none 0 0, .slice none 0 0, .slice none 0 0, .slice none 0 0, .slice none 0 0, .slice none 0 0] := ⟨_, rfl⟩
          rw [← hvl] at hL
          rw [← hvh] at hH
          rw [← hvo] at hO
          rw [← hvv] at hV
          have HO1 := Lib.hid (fun (W : World) (hk : Kept (fun _ => False) x3 W) => show Calls Tryd.prog 9 #[.agg vh, .agg vl] W fun e w' => e = .returned (.bool true) ∧ Kept (fun _ => False) W w' from by
            have h := obs10_walk highPk lowPk (⟨.slice none 0 0, .slice none 0 0, .slice none 0 0, .slice (some ⟨gl + 1 + 1, 0, none⟩) 1 1, .slice none 0 0, .slice none 0 0, .slice none 0 0, .slice none 0 0, .slice none 0 0⟩ : Sl) nilSl W ⟨DesS.nil W, RisS.nil W, RisS.nil W, desS_box (l := [oDe1]) (hk.box hD (fun h => h)) rfl, RisS.nil W, RisS.nil W, RisS.nil W, RisS.nil W, StrS.nil10 W, NilOk.zero, NilOk.zero, NilOk.zero, NilOk.some _ _ _, NilOk.zero, NilOk.zero, NilOk.zero, NilOk.zero, NilOk.zero⟩ (by decide) high_ok (by decide) (by decide) (by decide)
            rw [obs_a] at h
            simp only [hvh, hvl]
            exact h)
          have HO2 := Lib.hid (fun (W : World) (hk : Kept (fun _ => False) x3 W) => show Calls Tryd.prog 9 #[.agg vh, .agg vo] W fun e w' => e = .returned (.bool false) ∧ Kept (fun _ => False) W w' from by
            have h := obs10_walk highPk otherPk (⟨.slice none 0 0, .slice none 0 0, .slice none 0 0, .slice (some ⟨gl + 1 + 1, 0, none⟩) 1 1, .slice none 0 0, .slice none 0 0, .slice none 0 0, .slice none 0 0, .slice none 0 0⟩ : Sl) nilSl W ⟨DesS.nil W, RisS.nil W, RisS.nil W, desS_box (l := [oDe1]) (hk.box hD (fun h => h)) rfl, RisS.nil W, RisS.nil W, RisS.nil W, RisS.nil W, StrS.nil10 W, NilOk.zero, NilOk.zero, NilOk.zero, NilOk.some _ _ _, NilOk.zero, NilOk.zero, NilOk.zero, NilOk.zero, NilOk.zero⟩ (by decide) high_ok (by decide) (by decide) (by decide)
            rw [obs_b] at h
            simp only [hvh, hvo]
            exact h)
          have HO3 := Lib.hid (fun (W : World) (hk : Kept (fun _ => False) x3 W) => show Calls Tryd.prog 9 #[.agg vh, .agg vv] W fun e w' => e = .returned (.bool false) ∧ Kept (fun _ => False) W w' from by
            have h := obs10_walk highPk viaPk (⟨.slice none 0 0, .slice none 0 0, .slice none 0 0, .slice (some ⟨gl + 1 + 1, 0, none⟩) 1 1, .slice none 0 0, .slice none 0 0, .slice none 0 0, .slice none 0 0, .slice none 0 0⟩ : Sl) (⟨.slice (some ⟨gv, 0, none⟩) 1 1, .slice none 0 0, .slice none 0 0, .slice none 0 0, .slice none 0 0, .slice none 0 0, .slice none 0 0, .slice none 0 0, .slice none 0 0⟩ : Sl) W ⟨DesS.nil W, RisS.nil W, RisS.nil W, desS_box (l := [oDe1]) (hk.box hD (fun h => h)) rfl, RisS.nil W, RisS.nil W, RisS.nil W, RisS.nil W, StrS.nil10 W, NilOk.zero, NilOk.zero, NilOk.zero, NilOk.some _ _ _, NilOk.zero, NilOk.zero, NilOk.zero, NilOk.zero, NilOk.zero⟩ (by decide) high_ok (by decide) (by decide) (by decide)
            rw [obs_c] at h
            simp only [hvh, hvv]
            exact h)
          have HO4 := Lib.hid (fun (W : World) (hk : Kept (fun _ => False) x3 W) => show Calls Tryd.prog 9 #[.agg vl, .agg vh] W fun e w' => e = .returned (.bool false) ∧ Kept (fun _ => False) W w' from by
            have h := obs10_walk lowPk highPk nilSl (⟨.slice none 0 0, .slice none 0 0, .slice none 0 0, .slice (some ⟨gl + 1 + 1, 0, none⟩) 1 1, .slice none 0 0, .slice none 0 0, .slice none 0 0, .slice none 0 0, .slice none 0 0⟩ : Sl) W ⟨DesS.nil W, RisS.nil W, RisS.nil W, DesS.nil W, RisS.nil W, RisS.nil W, RisS.nil W, RisS.nil W, StrS.nil10 W, NilOk.zero, NilOk.zero, NilOk.zero, NilOk.zero, NilOk.zero, NilOk.zero, NilOk.zero, NilOk.zero, NilOk.zero⟩ (by decide) low_ok (by decide) (by decide) (by decide)
            rw [obs_d] at h
            simp only [hvl, hvh]
            exact h)
          have HLL := Lib.hid (fun (W : World) (hk : Kept (fun _ => False) x3 W) => run_loadPk (hk.box hL (fun h => h)) (show vl.size = 15 by rw [hvl]; rfl))
          have HLH := Lib.hid (fun (W : World) (hk : Kept (fun _ => False) x3 W) => run_loadPk (hk.box hH (fun h => h)) (show vh.size = 15 by rw [hvh]; rfl))
          have HLO := Lib.hid (fun (W : World) (hk : Kept (fun _ => False) x3 W) => run_loadPk (hk.box hO (fun h => h)) (show vo.size = 15 by rw [hvo]; rfl))
          have HLV := Lib.hid (fun (W : World) (hk : Kept (fun _ => False) x3 W) => run_loadPk (hk.box hV (fun h => h)) (show vv.size = 15 by rw [hvv]; rfl))
          have HKx := Lib.hid hk3
          clear hL hH hD hO hV hk3 hvl hvh hvo hvv
          have HKy := Lib.hid (Kept.refl (fun _ => False) x3)
          have l1 := HLL.out _ HKy.out
          have l2 := HLH.out _ HKy.out
          have l3 := HLO.out _ HKy.out
          have l4 := HLV.out _ HKy.out
          go_wp2_with fail
          refine (HO1.out _ HKy.out).mono ?_
          rintro e y1 ⟨rfl, hky⟩
          have HKy := Lib.hid (HKy.out.trans hky (fun _ _ h => h))
          clear hky l1 l2 l3 l4
          have l1 := HLL.out _ HKy.out
          have l2 := HLH.out _ HKy.out
          have l3 := HLO.out _ HKy.out
          have l4 := HLV.out _ HKy.out
          go_wp2_with fail
          refine (HO2.out _ HKy.out).mono ?_
          rintro e y2 ⟨rfl, hky⟩
          have HKy := Lib.hid (HKy.out.trans hky (fun _ _ h => h))
          clear hky l1 l2 l3 l4
          have l1 := HLL.out _ HKy.out
          have l2 := HLH.out _ HKy.out
          have l3 := HLO.out _ HKy.out
          have l4 := HLV.out _ HKy.out
          go_wp2_with fail
          refine (HO3.out _ HKy.out).mono ?_
          rintro e y3 ⟨rfl, hky⟩
          have HKy := Lib.hid (HKy.out.trans hky (fun _ _ h => h))
          clear hky l1 l2 l3 l4
          have l1 := HLL.out _ HKy.out
          have l2 := HLH.out _ HKy.out
          have l3 := HLO.out _ HKy.out
          have l4 := HLV.out _ HKy.out
          go_wp2_with fail
          refine (HO4.out _ HKy.out).mono ?_
          rintro e y4 ⟨rfl, hky⟩
          have HKy := Lib.hid (HKy.out.trans hky (fun _ _ h => h))
          clear hky l1 l2 l3 l4
          go_wp2_with fail
          refine (aw10_walk _ (HWa.out.kept (HKx.out.trans HKy.out (fun _ _ h => h)))).mono ?_
          rintro e yz ⟨rfl, hkz⟩
          go_wp2_with fail
          go_ret
          exact ⟨rfl, HKw.out.trans ((HKx.out.trans HKy.out (fun _ _ h => h)).trans hkz (fun _ _ h => h)) (fun _ _ h => h)⟩

end Go.Proofs.YtbofbkndmnidpaaDoor
