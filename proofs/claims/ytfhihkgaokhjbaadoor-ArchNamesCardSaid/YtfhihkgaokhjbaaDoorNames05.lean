/-
  The walk over the law ArchNames. Conditions: the two tables lie as the program's text lays them.
-/
import Derived.Test.YtfhihkgaokhjbaaDoorRef05
import Derived.Test.YtfhihkgaokhjbaaDoorMem
import Derived.Lib.Hide
namespace Go.Proofs.YtfhihkgaokhjbaaDoor
open Go.RowKit Arch

theorem ArchW.kept {W W' : World} (h : ArchW W) (k : Kept (fun _ => False) W W') : ArchW W' :=
  ⟨⟨fun i hi => (k.cell (World.block_lt_of_cell? W _ (h.names i hi)) (fun h => h)).trans (h.names i hi)⟩, ⟨fun m a hm ha => (k.cell (World.block_lt_of_cell? W _ (h.scores m a hm ha)) (fun h => h)).trans (h.scores m a hm ha)⟩⟩
theorem parse_good0 : parse ⟨#[110, 111, 97, 114, 99, 104]⟩ = (1, 0) := by simp [parse, ByteArray.toList_eq, nm1]
theorem parse_good1 : parse ⟨#[120, 56, 54, 95, 54, 52]⟩ = (2, 0) := by simp [parse, ByteArray.toList_eq, nm1, nm2]
theorem parse_good2 : parse ⟨#[105, 54, 56, 54]⟩ = (3, 0) := by simp [parse, ByteArray.toList_eq, nm1, nm2, nm3]
theorem parse_good3 : parse ⟨#[97, 97, 114, 99, 104, 54, 52]⟩ = (4, 0) := by simp [parse, ByteArray.toList_eq, nm1, nm2, nm3, nm4]
theorem parse_bad0 : parse ⟨#[]⟩ = (0, 5) := by simp [parse, ByteArray.toList_eq, nm1, nm2, nm3, nm4]
theorem parse_bad1 : parse ⟨#[120, 56, 54, 45, 54, 52]⟩ = (0, 5) := by simp [parse, ByteArray.toList_eq, nm1, nm2, nm3, nm4]
theorem parse_bad2 : parse ⟨#[110, 111, 97, 114, 99]⟩ = (0, 5) := by simp [parse, ByteArray.toList_eq, nm1, nm2, nm3, nm4]
theorem parse_bad3 : parse ⟨#[73, 54, 56, 54]⟩ = (0, 5) := by simp [parse, ByteArray.toList_eq, nm1, nm2, nm3, nm4]
set_option maxRecDepth 100000 in
set_option maxHeartbeats 4000000 in
theorem archnames_walk (W : World) (hW : ArchW W) : Calls Tryd.prog 3 #[] W fun e w' => e = .returned (.bool true) ∧ Kept (fun _ => False) W w' := by
  have hK := works5 W hW.toScoresW
  go_enter Tryd.func3, Tryd.ntmps3
  go_wp2_with (first | (go_at_call 7; with_reducible refine hK.mono ?_; rintro e w1 ⟨rfl, rfl⟩) | fail)
  rename World => W
  clear hK
  have hk : Kept (fun _ => False) W (W.alloc (.cells #[.string ⟨#[110, 111, 97, 114, 99, 104]⟩, .string ⟨#[120, 56, 54, 95, 54, 52]⟩, .string ⟨#[105, 54, 56, 54]⟩, .string ⟨#[97, 97, 114, 99, 104, 54, 52]⟩] 9)) := (Kept.refl _ _).alloc _
  have bR := Box.made W 9 #[.string ⟨#[110, 111, 97, 114, 99, 104]⟩, .string ⟨#[120, 56, 54, 95, 54, 52]⟩, .string ⟨#[105, 54, 56, 54]⟩, .string ⟨#[97, 97, 114, 99, 104, 54, 52]⟩]
  have hW2 := hW.kept hk
  generalize W.alloc (.cells #[.string ⟨#[110, 111, 97, 114, 99, 104]⟩, .string ⟨#[120, 56, 54, 95, 54, 52]⟩, .string ⟨#[105, 54, 56, 54]⟩, .string ⟨#[97, 97, 114, 99, 104, 54, 52]⟩] 9) = W2 at hk bR hW2 ⊢
  generalize W.heap.size = g at bR ⊢
  have rx0 := bR.cell 0
  have rx1 := bR.cell 1
  have rx2 := bR.cell 2
  have rx3 := bR.cell 3
  have HK := Lib.hid hk
  clear bR hk
  have P1 : Pure 8 #[.string ⟨#[110, 111, 97, 114, 99, 104]⟩] (.tuple #[.int .u8 1, .int .i64 0]) W2 := by have := parse_k5 W2 hW2.toNamesW ⟨#[110, 111, 97, 114, 99, 104]⟩; rw [parse_good0] at this; exact this
  have N1 : Pure 9 #[.int .u8 1] (.string ⟨#[110, 111, 97, 114, 99, 104]⟩) W2 := name_k W2 hW2.toNamesW 1 (by decide)
  have M1 : Pure 10 #[.int .u8 1] (.bool false) W2 := machine_k W2 1 (by decide)
  have G1 : Pure 11 #[.int .u8 1, .int .u8 1] (.bool true) W2 := follows_k W2 1 1 (by decide) (by decide)
  have A1 : Pure 12 #[.int .u8 1, .int .u8 1] (.bool false) W2 := apart_k W2 1 1 (by decide) (by decide)
  have F1 : Pure 13 #[.int .u8 1, .int .u8 1] (.bool false) W2 := fits_k W2 hW2.toScoresW 1 1 (by decide) (by decide)
  have P2 : Pure 8 #[.string ⟨#[120, 56, 54, 95, 54, 52]⟩] (.tuple #[.int .u8 2, .int .i64 0]) W2 := by have := parse_k5 W2 hW2.toNamesW ⟨#[120, 56, 54, 95, 54, 52]⟩; rw [parse_good1] at this; exact this
  have N2 : Pure 9 #[.int .u8 2] (.string ⟨#[120, 56, 54, 95, 54, 52]⟩) W2 := name_k W2 hW2.toNamesW 2 (by decide)
  have M2 : Pure 10 #[.int .u8 2] (.bool true) W2 := machine_k W2 2 (by decide)
  have G2 : Pure 11 #[.int .u8 2, .int .u8 2] (.bool true) W2 := follows_k W2 2 2 (by decide) (by decide)
  have A2 : Pure 12 #[.int .u8 2, .int .u8 2] (.bool false) W2 := apart_k W2 2 2 (by decide) (by decide)
  have F2 : Pure 13 #[.int .u8 2, .int .u8 2] (.bool true) W2 := fits_k W2 hW2.toScoresW 2 2 (by decide) (by decide)
  have P3 : Pure 8 #[.string ⟨#[105, 54, 56, 54]⟩] (.tuple #[.int .u8 3, .int .i64 0]) W2 := by have := parse_k5 W2 hW2.toNamesW ⟨#[105, 54, 56, 54]⟩; rw [parse_good2] at this; exact this
  have N3 : Pure 9 #[.int .u8 3] (.string ⟨#[105, 54, 56, 54]⟩) W2 := name_k W2 hW2.toNamesW 3 (by decide)
  have M3 : Pure 10 #[.int .u8 3] (.bool true) W2 := machine_k W2 3 (by decide)
  have G3 : Pure 11 #[.int .u8 3, .int .u8 3] (.bool true) W2 := follows_k W2 3 3 (by decide) (by decide)
  have A3 : Pure 12 #[.int .u8 3, .int .u8 3] (.bool false) W2 := apart_k W2 3 3 (by decide) (by decide)
  have F3 : Pure 13 #[.int .u8 3, .int .u8 3] (.bool true) W2 := fits_k W2 hW2.toScoresW 3 3 (by decide) (by decide)
  have P4 : Pure 8 #[.string ⟨#[97, 97, 114, 99, 104, 54, 52]⟩] (.tuple #[.int .u8 4, .int .i64 0]) W2 := by have := parse_k5 W2 hW2.toNamesW ⟨#[97, 97, 114, 99, 104, 54, 52]⟩; rw [parse_good3] at this; exact this
  have N4 : Pure 9 #[.int .u8 4] (.string ⟨#[97, 97, 114, 99, 104, 54, 52]⟩) W2 := name_k W2 hW2.toNamesW 4 (by decide)
  have M4 : Pure 10 #[.int .u8 4] (.bool true) W2 := machine_k W2 4 (by decide)
  have G4 : Pure 11 #[.int .u8 4, .int .u8 4] (.bool true) W2 := follows_k W2 4 4 (by decide) (by decide)
  have A4 : Pure 12 #[.int .u8 4, .int .u8 4] (.bool false) W2 := apart_k W2 4 4 (by decide) (by decide)
  have F4 : Pure 13 #[.int .u8 4, .int .u8 4] (.bool true) W2 := fits_k W2 hW2.toScoresW 4 4 (by decide) (by decide)
  refine wp_loop_rounds 5 ?_
  rw [rounds_succ]
  go_wp2_with (first
    | (go_at_call 8; (first | with_reducible refine P1.mono ?_); rintro e w1 ⟨rfl, rfl⟩)
    | (go_at_call 9; (first | with_reducible refine N1.mono ?_); rintro e w1 ⟨rfl, rfl⟩)
    | (go_at_call 10; (first | with_reducible refine M1.mono ?_); rintro e w1 ⟨rfl, rfl⟩)
    | (go_at_call 11; (first | with_reducible refine G1.mono ?_); rintro e w1 ⟨rfl, rfl⟩)
    | (go_at_call 12; (first | with_reducible refine A1.mono ?_); rintro e w1 ⟨rfl, rfl⟩)
    | (go_at_call 13; (first | with_reducible refine F1.mono ?_); rintro e w1 ⟨rfl, rfl⟩)
    | fail)
  rw [rounds_succ]
  go_wp2_with (first
    | (go_at_call 8; (first | with_reducible refine P2.mono ?_); rintro e w1 ⟨rfl, rfl⟩)
    | (go_at_call 9; (first | with_reducible refine N2.mono ?_); rintro e w1 ⟨rfl, rfl⟩)
    | (go_at_call 10; (first | with_reducible refine M2.mono ?_); rintro e w1 ⟨rfl, rfl⟩)
    | (go_at_call 11; (first | with_reducible refine G2.mono ?_); rintro e w1 ⟨rfl, rfl⟩)
    | (go_at_call 12; (first | with_reducible refine A2.mono ?_); rintro e w1 ⟨rfl, rfl⟩)
    | (go_at_call 13; (first | with_reducible refine F2.mono ?_); rintro e w1 ⟨rfl, rfl⟩)
    | fail)
  rw [rounds_succ]
  go_wp2_with (first
    | (go_at_call 8; (first | with_reducible refine P3.mono ?_); rintro e w1 ⟨rfl, rfl⟩)
    | (go_at_call 9; (first | with_reducible refine N3.mono ?_); rintro e w1 ⟨rfl, rfl⟩)
    | (go_at_call 10; (first | with_reducible refine M3.mono ?_); rintro e w1 ⟨rfl, rfl⟩)
    | (go_at_call 11; (first | with_reducible refine G3.mono ?_); rintro e w1 ⟨rfl, rfl⟩)
    | (go_at_call 12; (first | with_reducible refine A3.mono ?_); rintro e w1 ⟨rfl, rfl⟩)
    | (go_at_call 13; (first | with_reducible refine F3.mono ?_); rintro e w1 ⟨rfl, rfl⟩)
    | fail)
  rw [rounds_succ]
  go_wp2_with (first
    | (go_at_call 8; (first | with_reducible refine P4.mono ?_); rintro e w1 ⟨rfl, rfl⟩)
    | (go_at_call 9; (first | with_reducible refine N4.mono ?_); rintro e w1 ⟨rfl, rfl⟩)
    | (go_at_call 10; (first | with_reducible refine M4.mono ?_); rintro e w1 ⟨rfl, rfl⟩)
    | (go_at_call 11; (first | with_reducible refine G4.mono ?_); rintro e w1 ⟨rfl, rfl⟩)
    | (go_at_call 12; (first | with_reducible refine A4.mono ?_); rintro e w1 ⟨rfl, rfl⟩)
    | (go_at_call 13; (first | with_reducible refine F4.mono ?_); rintro e w1 ⟨rfl, rfl⟩)
    | fail)
  rw [rounds_succ]
  go_wp2_with fail
  rename World => W2
  clear P1 N1 M1 G1 A1 F1 P2 N2 M2 G2 A2 F2 P3 N3 M3 G3 A3 F3 P4 N4 M4 G4 A4 F4 rx0 rx1 rx2 rx3
  have hk2 : Kept (fun _ => False) W2 (W2.alloc (.cells #[.string ⟨#[]⟩, .string ⟨#[120, 56, 54, 45, 54, 52]⟩, .string ⟨#[110, 111, 97, 114, 99]⟩, .string ⟨#[73, 54, 56, 54]⟩] 9)) := (Kept.refl _ _).alloc _
  have bR := Box.made W2 9 #[.string ⟨#[]⟩, .string ⟨#[120, 56, 54, 45, 54, 52]⟩, .string ⟨#[110, 111, 97, 114, 99]⟩, .string ⟨#[73, 54, 56, 54]⟩]
  have hW3 := hW2.kept hk2
  generalize W2.alloc (.cells #[.string ⟨#[]⟩, .string ⟨#[120, 56, 54, 45, 54, 52]⟩, .string ⟨#[110, 111, 97, 114, 99]⟩, .string ⟨#[73, 54, 56, 54]⟩] 9) = W3 at hk2 bR hW3 ⊢
  generalize W2.heap.size = g2 at bR ⊢
  have rx0 := bR.cell 0
  have rx1 := bR.cell 1
  have rx2 := bR.cell 2
  have rx3 := bR.cell 3
  have HK2 := Lib.hid (HK.out.trans hk2 (fun _ _ h => h))
  clear bR hk2 HK hW2
  have P1 : Pure 8 #[.string ⟨#[]⟩] (.tuple #[.int .u8 0, .int .i64 5]) W3 := by have := parse_k5 W3 hW3.toNamesW ⟨#[]⟩; rw [parse_bad0] at this; exact this
  have P2 : Pure 8 #[.string ⟨#[120, 56, 54, 45, 54, 52]⟩] (.tuple #[.int .u8 0, .int .i64 5]) W3 := by have := parse_k5 W3 hW3.toNamesW ⟨#[120, 56, 54, 45, 54, 52]⟩; rw [parse_bad1] at this; exact this
  have P3 : Pure 8 #[.string ⟨#[110, 111, 97, 114, 99]⟩] (.tuple #[.int .u8 0, .int .i64 5]) W3 := by have := parse_k5 W3 hW3.toNamesW ⟨#[110, 111, 97, 114, 99]⟩; rw [parse_bad2] at this; exact this
  have P4 : Pure 8 #[.string ⟨#[73, 54, 56, 54]⟩] (.tuple #[.int .u8 0, .int .i64 5]) W3 := by have := parse_k5 W3 hW3.toNamesW ⟨#[73, 54, 56, 54]⟩; rw [parse_bad3] at this; exact this
  refine wp_loop_rounds 5 ?_
  rw [rounds_succ]
  go_wp2_with (first
    | (go_at_call 8; (first | with_reducible refine P1.mono ?_); rintro e w1 ⟨rfl, rfl⟩)
    | fail)
  rw [rounds_succ]
  go_wp2_with (first
    | (go_at_call 8; (first | with_reducible refine P2.mono ?_); rintro e w1 ⟨rfl, rfl⟩)
    | fail)
  rw [rounds_succ]
  go_wp2_with (first
    | (go_at_call 8; (first | with_reducible refine P3.mono ?_); rintro e w1 ⟨rfl, rfl⟩)
    | fail)
  rw [rounds_succ]
  go_wp2_with (first
    | (go_at_call 8; (first | with_reducible refine P4.mono ?_); rintro e w1 ⟨rfl, rfl⟩)
    | fail)
  rename World => W3
  clear P1 P2 P3 P4
  have N0 : Pure 9 #[.int .u8 0] (.string ⟨#[]⟩) W3 := name_k W3 hW3.toNamesW 0 (by decide)
  have N5 : Pure 9 #[.int .u8 5] (.string ⟨#[]⟩) W3 := name_k W3 hW3.toNamesW 5 (by decide)
  have N255 : Pure 9 #[.int .u8 255] (.string ⟨#[]⟩) W3 := name_k W3 hW3.toNamesW 255 (by decide)
  have M0 : Pure 10 #[.int .u8 0] (.bool false) W3 := machine_k W3 0 (by decide)
  have M5 : Pure 10 #[.int .u8 5] (.bool false) W3 := machine_k W3 5 (by decide)
  have F0 : Pure 13 #[.int .u8 0, .int .u8 0] (.bool false) W3 := fits_k W3 hW3.toScoresW 0 0 (by decide) (by decide)
  have F5 : Pure 13 #[.int .u8 5, .int .u8 5] (.bool false) W3 := fits_k W3 hW3.toScoresW 5 5 (by decide) (by decide)
  have F1 : Pure 13 #[.int .u8 1, .int .u8 1] (.bool false) W3 := fits_k W3 hW3.toScoresW 1 1 (by decide) (by decide)
  have F4 : Pure 13 #[.int .u8 4, .int .u8 2] (.bool false) W3 := fits_k W3 hW3.toScoresW 4 2 (by decide) (by decide)
  have A0 : Pure 12 #[.int .u8 0, .int .u8 2] (.bool false) W3 := apart_k W3 0 2 (by decide) (by decide)
  have G0 : Pure 11 #[.int .u8 0, .int .u8 0] (.bool false) W3 := follows_k W3 0 0 (by decide) (by decide)
  have G5 : Pure 11 #[.int .u8 1, .int .u8 5] (.bool false) W3 := follows_k W3 1 5 (by decide) (by decide)
  have S0 : Pure 14 #[.int .u8 2, .int .u8 255] (.int .i64 0) W3 := score_k W3 hW3.toScoresW 2 255 (by decide) (by decide)
  rw [rounds_succ]
  go_wp2_with (first
    | (go_at_call 9; (first | with_reducible refine N0.mono ?_ | with_reducible refine N5.mono ?_ | with_reducible refine N255.mono ?_); rintro e w1 ⟨rfl, rfl⟩)
    | (go_at_call 10; (first | with_reducible refine M0.mono ?_ | with_reducible refine M5.mono ?_); rintro e w1 ⟨rfl, rfl⟩)
    | (go_at_call 13; (first | with_reducible refine F0.mono ?_ | with_reducible refine F5.mono ?_ | with_reducible refine F1.mono ?_ | with_reducible refine F4.mono ?_); rintro e w1 ⟨rfl, rfl⟩)
    | (go_at_call 12; (first | with_reducible refine A0.mono ?_); rintro e w1 ⟨rfl, rfl⟩)
    | (go_at_call 11; (first | with_reducible refine G0.mono ?_ | with_reducible refine G5.mono ?_); rintro e w1 ⟨rfl, rfl⟩)
    | (go_at_call 14; (first | with_reducible refine S0.mono ?_); rintro e w1 ⟨rfl, rfl⟩)
    | fail)
  go_ret
  exact ⟨rfl, HK2.out⟩
end Go.Proofs.YtfhihkgaokhjbaaDoor
