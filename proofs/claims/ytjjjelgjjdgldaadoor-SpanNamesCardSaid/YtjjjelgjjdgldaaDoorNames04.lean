/-
  The walk over the law SpanNames. Conditions: as each theorem states.
-/
import Derived.Test.YtjjjelgjjdgldaaDoorFace04
import Derived.Test.YtjjjelgjjdgldaaDoorRef04
namespace Go.Proofs.YtjjjelgjjdgldaaDoor
open Go.RowKit Span Evr

/-- The laws' table: an Op by its place, what two ranges are to answer. -/
def opN (i : Nat) : Nat := match i with | 0 => 1 | 1 => 2 | 2 => 3 | 3 => 4 | _ => 6
def lessN (i : Nat) : ByteArray := match i with | 0 => ⟨#[49, 48, 49, 48, 48]⟩ | 1 => ⟨#[49, 48, 49, 48, 48]⟩ | 2 => ⟨#[49, 48, 49, 48, 48]⟩ | _ => ⟨#[49, 49, 49, 49, 49]⟩
def sameN (i : Nat) : ByteArray := match i with | 0 => ⟨#[49, 48, 49, 48, 48]⟩ | 1 => ⟨#[48, 49, 49, 48, 49]⟩ | 2 => ⟨#[49, 49, 49, 48, 49]⟩ | 3 => ⟨#[48, 48, 48, 49, 49]⟩ | _ => ⟨#[48, 49, 49, 49, 49]⟩
theorem five {i : Nat} (h : i < 5) : i = 0 ∨ i = 1 ∨ i = 2 ∨ i = 3 ∨ i = 4 := by omega
theorem opN_cell {i : Nat} (h : i < 5) : (#[.int .u8 1, .int .u8 2, .int .u8 3, .int .u8 4, .int .u8 6] : Array Value)[i]? = some (.int .u8 (opN i : Int)) := by
  rcases five h with rfl | rfl | rfl | rfl | rfl <;> rfl
theorem lessN_cell {i : Nat} (h : i < 5) : (#[.string ⟨#[49, 48, 49, 48, 48]⟩, .string ⟨#[49, 48, 49, 48, 48]⟩, .string ⟨#[49, 48, 49, 48, 48]⟩, .string ⟨#[49, 49, 49, 49, 49]⟩, .string ⟨#[49, 49, 49, 49, 49]⟩] : Array Value)[i]? = some (.string (lessN i)) := by
  rcases five h with rfl | rfl | rfl | rfl | rfl <;> rfl
theorem sameN_cell {i : Nat} (h : i < 5) : (#[.string ⟨#[49, 48, 49, 48, 48]⟩, .string ⟨#[48, 49, 49, 48, 49]⟩, .string ⟨#[49, 49, 49, 48, 49]⟩, .string ⟨#[48, 48, 48, 49, 49]⟩, .string ⟨#[48, 49, 49, 49, 49]⟩] : Array Value)[i]? = some (.string (sameN i)) := by
  rcases five h with rfl | rfl | rfl | rfl | rfl <;> rfl
theorem opN_lt (i : Nat) : opN i < 256 := by unfold opN; split <;> decide
theorem tableN {i k : Nat} (hi : i < 5) (hk : k < 5) : (lessN i).size = 5 ∧ (sameN i).size = 5 ∧ ∃ c d : UInt8, (∀ h : k < (lessN i).size, (lessN i)[k] = c) ∧ (∀ h : k < (sameN i).size, (sameN i)[k] = d) ∧
    ((c.toNat : Int) == 49) = meetO (opN i) (opN k) (-1) ∧ ((d.toNat : Int) == 49) = meetO (opN i) (opN k) 0 ∧ meetO (opN k) (opN i) 1 = meetO (opN i) (opN k) (-1) := by
  rcases five hi with rfl | rfl | rfl | rfl | rfl <;> rcases five hk with rfl | rfl | rfl | rfl | rfl <;> exact ⟨rfl, rfl, _, _, fun _ => rfl, fun _ => rfl, rfl, rfl, rfl⟩
set_option maxRecDepth 100000 in
set_option maxHeartbeats 4000000 in
theorem spannames_walk (w : World) : Calls Tryd.prog 5 #[] w fun e w' => e = .returned (.bool true) ∧ Kept (fun _ => False) w w' := by
  go_enter Tryd.func5, Tryd.ntmps5
  go_wp2_with fail
  go_loopw [1] (fun v1 wr => ∃ o : Nat, v1 = .int .i64 (o : Int) ∧ o ≤ 256 ∧ Kept (fun _ => False) w wr) (fun v1 _ => 256 - (intOf v1).toNat)
  case atStart => exact ⟨0, rfl, Nat.zero_le _, Kept.refl _ _⟩
  case round =>
    obtain ⟨o, rfl, ho, hk⟩ := hrel
    have HK := Lib.hid hk
    clear hk
    by_cases hlt : o < 256
    · have hiI : (o : Int) < 256 := by omega
      have T0 := fun W => text_k o hlt W
      have Y0 := fun W => may_k o hlt W
      rcases op_cases o with rfl | rfl | rfl | rfl | rfl | rfl | ⟨g0, g1, g2, g3, g4, g6, hm, ht⟩
      · have T1 : ∀ W : World, Calls Tryd.prog 15 #[.int .u8 0] W fun e w' => e = .returned (.string ⟨#[]⟩) ∧ Kept (fun _ => False) W w' := T0
        have Y1 : ∀ W : World, Calls Tryd.prog 13 #[.int .u8 0] W fun e w' => e = .returned (.bool true) ∧ Kept (fun _ => False) W w' := Y0
        have P1 : ∀ W : World, Calls Tryd.prog 11 #[.string ⟨#[]⟩] W fun e w' => e = .returned (.tuple #[.int .u8 0, .bool true]) ∧ Kept (fun _ => False) W w' := fun W => parse_k ⟨#[]⟩ (by decide) W
        clear T0 Y0
        go_wp2_with (first
          | (go_at_call 15; with_reducible refine (T1 _).mono ?_; rintro e w5 ⟨rfl, hk5⟩; have HK := Lib.hid (Kept.trans HK.out hk5 (fun _ _ h => h)); clear hk5)
          | (go_at_call 11; with_reducible refine (P1 _).mono ?_; rintro e w5 ⟨rfl, hk5⟩; have HK := Lib.hid (Kept.trans HK.out hk5 (fun _ _ h => h)); clear hk5)
          | (go_at_call 13; with_reducible refine (Y1 _).mono ?_; rintro e w5 ⟨rfl, hk5⟩; have HK := Lib.hid (Kept.trans HK.out hk5 (fun _ _ h => h)); clear hk5)
          | fail)
        go_roundw
        case rel => exact ⟨0 + 1, by go_num, by omega, HK.out⟩
        case measure => first | (simp [intOf]; done) | (simp [intOf]; omega)
      · have T1 : ∀ W : World, Calls Tryd.prog 15 #[.int .u8 1] W fun e w' => e = .returned (.string ⟨#[60]⟩) ∧ Kept (fun _ => False) W w' := T0
        have Y1 : ∀ W : World, Calls Tryd.prog 13 #[.int .u8 1] W fun e w' => e = .returned (.bool true) ∧ Kept (fun _ => False) W w' := Y0
        have P1 : ∀ W : World, Calls Tryd.prog 11 #[.string ⟨#[60]⟩] W fun e w' => e = .returned (.tuple #[.int .u8 1, .bool true]) ∧ Kept (fun _ => False) W w' := fun W => parse_k ⟨#[60]⟩ (by decide) W
        clear T0 Y0
        go_wp2_with (first
          | (go_at_call 15; with_reducible refine (T1 _).mono ?_; rintro e w5 ⟨rfl, hk5⟩; have HK := Lib.hid (Kept.trans HK.out hk5 (fun _ _ h => h)); clear hk5)
          | (go_at_call 11; with_reducible refine (P1 _).mono ?_; rintro e w5 ⟨rfl, hk5⟩; have HK := Lib.hid (Kept.trans HK.out hk5 (fun _ _ h => h)); clear hk5)
          | (go_at_call 13; with_reducible refine (Y1 _).mono ?_; rintro e w5 ⟨rfl, hk5⟩; have HK := Lib.hid (Kept.trans HK.out hk5 (fun _ _ h => h)); clear hk5)
          | fail)
        go_roundw
        case rel => exact ⟨1 + 1, by go_num, by omega, HK.out⟩
        case measure => first | (simp [intOf]; done) | (simp [intOf]; omega)
      · have T1 : ∀ W : World, Calls Tryd.prog 15 #[.int .u8 2] W fun e w' => e = .returned (.string ⟨#[61]⟩) ∧ Kept (fun _ => False) W w' := T0
        have Y1 : ∀ W : World, Calls Tryd.prog 13 #[.int .u8 2] W fun e w' => e = .returned (.bool true) ∧ Kept (fun _ => False) W w' := Y0
        have P1 : ∀ W : World, Calls Tryd.prog 11 #[.string ⟨#[61]⟩] W fun e w' => e = .returned (.tuple #[.int .u8 2, .bool true]) ∧ Kept (fun _ => False) W w' := fun W => parse_k ⟨#[61]⟩ (by decide) W
        clear T0 Y0
        go_wp2_with (first
          | (go_at_call 15; with_reducible refine (T1 _).mono ?_; rintro e w5 ⟨rfl, hk5⟩; have HK := Lib.hid (Kept.trans HK.out hk5 (fun _ _ h => h)); clear hk5)
          | (go_at_call 11; with_reducible refine (P1 _).mono ?_; rintro e w5 ⟨rfl, hk5⟩; have HK := Lib.hid (Kept.trans HK.out hk5 (fun _ _ h => h)); clear hk5)
          | (go_at_call 13; with_reducible refine (Y1 _).mono ?_; rintro e w5 ⟨rfl, hk5⟩; have HK := Lib.hid (Kept.trans HK.out hk5 (fun _ _ h => h)); clear hk5)
          | fail)
        go_roundw
        case rel => exact ⟨2 + 1, by go_num, by omega, HK.out⟩
        case measure => first | (simp [intOf]; done) | (simp [intOf]; omega)
      · have T1 : ∀ W : World, Calls Tryd.prog 15 #[.int .u8 3] W fun e w' => e = .returned (.string ⟨#[60, 61]⟩) ∧ Kept (fun _ => False) W w' := T0
        have Y1 : ∀ W : World, Calls Tryd.prog 13 #[.int .u8 3] W fun e w' => e = .returned (.bool true) ∧ Kept (fun _ => False) W w' := Y0
        have P1 : ∀ W : World, Calls Tryd.prog 11 #[.string ⟨#[60, 61]⟩] W fun e w' => e = .returned (.tuple #[.int .u8 3, .bool true]) ∧ Kept (fun _ => False) W w' := fun W => parse_k ⟨#[60, 61]⟩ (by decide) W
        clear T0 Y0
        go_wp2_with (first
          | (go_at_call 15; with_reducible refine (T1 _).mono ?_; rintro e w5 ⟨rfl, hk5⟩; have HK := Lib.hid (Kept.trans HK.out hk5 (fun _ _ h => h)); clear hk5)
          | (go_at_call 11; with_reducible refine (P1 _).mono ?_; rintro e w5 ⟨rfl, hk5⟩; have HK := Lib.hid (Kept.trans HK.out hk5 (fun _ _ h => h)); clear hk5)
          | (go_at_call 13; with_reducible refine (Y1 _).mono ?_; rintro e w5 ⟨rfl, hk5⟩; have HK := Lib.hid (Kept.trans HK.out hk5 (fun _ _ h => h)); clear hk5)
          | fail)
        go_roundw
        case rel => exact ⟨3 + 1, by go_num, by omega, HK.out⟩
        case measure => first | (simp [intOf]; done) | (simp [intOf]; omega)
      · have T1 : ∀ W : World, Calls Tryd.prog 15 #[.int .u8 4] W fun e w' => e = .returned (.string ⟨#[62]⟩) ∧ Kept (fun _ => False) W w' := T0
        have Y1 : ∀ W : World, Calls Tryd.prog 13 #[.int .u8 4] W fun e w' => e = .returned (.bool true) ∧ Kept (fun _ => False) W w' := Y0
        have P1 : ∀ W : World, Calls Tryd.prog 11 #[.string ⟨#[62]⟩] W fun e w' => e = .returned (.tuple #[.int .u8 4, .bool true]) ∧ Kept (fun _ => False) W w' := fun W => parse_k ⟨#[62]⟩ (by decide) W
        clear T0 Y0
        go_wp2_with (first
          | (go_at_call 15; with_reducible refine (T1 _).mono ?_; rintro e w5 ⟨rfl, hk5⟩; have HK := Lib.hid (Kept.trans HK.out hk5 (fun _ _ h => h)); clear hk5)
          | (go_at_call 11; with_reducible refine (P1 _).mono ?_; rintro e w5 ⟨rfl, hk5⟩; have HK := Lib.hid (Kept.trans HK.out hk5 (fun _ _ h => h)); clear hk5)
          | (go_at_call 13; with_reducible refine (Y1 _).mono ?_; rintro e w5 ⟨rfl, hk5⟩; have HK := Lib.hid (Kept.trans HK.out hk5 (fun _ _ h => h)); clear hk5)
          | fail)
        go_roundw
        case rel => exact ⟨4 + 1, by go_num, by omega, HK.out⟩
        case measure => first | (simp [intOf]; done) | (simp [intOf]; omega)
      · have T1 : ∀ W : World, Calls Tryd.prog 15 #[.int .u8 6] W fun e w' => e = .returned (.string ⟨#[62, 61]⟩) ∧ Kept (fun _ => False) W w' := T0
        have Y1 : ∀ W : World, Calls Tryd.prog 13 #[.int .u8 6] W fun e w' => e = .returned (.bool true) ∧ Kept (fun _ => False) W w' := Y0
        have P1 : ∀ W : World, Calls Tryd.prog 11 #[.string ⟨#[62, 61]⟩] W fun e w' => e = .returned (.tuple #[.int .u8 6, .bool true]) ∧ Kept (fun _ => False) W w' := fun W => parse_k ⟨#[62, 61]⟩ (by decide) W
        clear T0 Y0
        go_wp2_with (first
          | (go_at_call 15; with_reducible refine (T1 _).mono ?_; rintro e w5 ⟨rfl, hk5⟩; have HK := Lib.hid (Kept.trans HK.out hk5 (fun _ _ h => h)); clear hk5)
          | (go_at_call 11; with_reducible refine (P1 _).mono ?_; rintro e w5 ⟨rfl, hk5⟩; have HK := Lib.hid (Kept.trans HK.out hk5 (fun _ _ h => h)); clear hk5)
          | (go_at_call 13; with_reducible refine (Y1 _).mono ?_; rintro e w5 ⟨rfl, hk5⟩; have HK := Lib.hid (Kept.trans HK.out hk5 (fun _ _ h => h)); clear hk5)
          | fail)
        go_roundw
        case rel => exact ⟨6 + 1, by go_num, by omega, HK.out⟩
        case measure => first | (simp [intOf]; done) | (simp [intOf]; omega)
      · rw [ht] at T0
        rw [hm] at Y0
        have T1 : ∀ W : World, Calls Tryd.prog 15 #[.int .u8 (o : Int)] W fun e w' => e = .returned (.string ⟨#[]⟩) ∧ Kept (fun _ => False) W w' := T0
        have Y1 : ∀ W : World, Calls Tryd.prog 13 #[.int .u8 (o : Int)] W fun e w' => e = .returned (.bool false) ∧ Kept (fun _ => False) W w' := Y0
        have P1 : ∀ W : World, Calls Tryd.prog 11 #[.string ⟨#[]⟩] W fun e w' => e = .returned (.tuple #[.int .u8 0, .bool true]) ∧ Kept (fun _ => False) W w' := fun W => parse_k ⟨#[]⟩ (by decide) W
        clear T0 Y0 ht hm
        go_wp2_with (first
          | (go_at_call 15; with_reducible refine (T1 _).mono ?_; rintro e w5 ⟨rfl, hk5⟩; have HK := Lib.hid (Kept.trans HK.out hk5 (fun _ _ h => h)); clear hk5)
          | (go_at_call 11; with_reducible refine (P1 _).mono ?_; rintro e w5 ⟨rfl, hk5⟩; have HK := Lib.hid (Kept.trans HK.out hk5 (fun _ _ h => h)); clear hk5)
          | (go_at_call 13; with_reducible refine (Y1 _).mono ?_; rintro e w5 ⟨rfl, hk5⟩; have HK := Lib.hid (Kept.trans HK.out hk5 (fun _ _ h => h)); clear hk5)
          | fail)
        go_roundw
        case rel => exact ⟨o + 1, by go_num, by omega, HK.out⟩
        case measure => first | (simp [intOf]; done) | (simp [intOf]; omega)
    · obtain rfl : o = 256 := by omega
      clear hlt ho
      have P0 : ∀ W : World, Calls Tryd.prog 11 #[.string ⟨#[61, 61]⟩] W fun e w' => e = .returned (.tuple #[.int .u8 0, .bool false]) ∧ Kept (fun _ => False) W w' := fun W => parse_k ⟨#[61, 61]⟩ (by decide) W
      have P1 : ∀ W : World, Calls Tryd.prog 11 #[.string ⟨#[61, 62]⟩] W fun e w' => e = .returned (.tuple #[.int .u8 0, .bool false]) ∧ Kept (fun _ => False) W w' := fun W => parse_k ⟨#[61, 62]⟩ (by decide) W
      have P2 : ∀ W : World, Calls Tryd.prog 11 #[.string ⟨#[61, 60]⟩] W fun e w' => e = .returned (.tuple #[.int .u8 0, .bool false]) ∧ Kept (fun _ => False) W w' := fun W => parse_k ⟨#[61, 60]⟩ (by decide) W
      have P3 : ∀ W : World, Calls Tryd.prog 11 #[.string ⟨#[60, 62]⟩] W fun e w' => e = .returned (.tuple #[.int .u8 0, .bool false]) ∧ Kept (fun _ => False) W w' := fun W => parse_k ⟨#[60, 62]⟩ (by decide) W
      have P4 : ∀ W : World, Calls Tryd.prog 11 #[.string ⟨#[33]⟩] W fun e w' => e = .returned (.tuple #[.int .u8 0, .bool false]) ∧ Kept (fun _ => False) W w' := fun W => parse_k ⟨#[33]⟩ (by decide) W
      have P5 : ∀ W : World, Calls Tryd.prog 11 #[.string ⟨#[32]⟩] W fun e w' => e = .returned (.tuple #[.int .u8 0, .bool false]) ∧ Kept (fun _ => False) W w' := fun W => parse_k ⟨#[32]⟩ (by decide) W
      have P6 : ∀ W : World, Calls Tryd.prog 11 #[.string ⟨#[60, 32]⟩] W fun e w' => e = .returned (.tuple #[.int .u8 0, .bool false]) ∧ Kept (fun _ => False) W w' := fun W => parse_k ⟨#[60, 32]⟩ (by decide) W
      go_wp2_with fail
      have bR := Box.made wr 9 #[.string ⟨#[61, 61]⟩, .string ⟨#[61, 62]⟩, .string ⟨#[61, 60]⟩, .string ⟨#[60, 62]⟩, .string ⟨#[33]⟩, .string ⟨#[32]⟩, .string ⟨#[60, 32]⟩]
      have bK := HK.out.alloc (.cells #[.string ⟨#[61, 61]⟩, .string ⟨#[61, 62]⟩, .string ⟨#[61, 60]⟩, .string ⟨#[60, 62]⟩, .string ⟨#[33]⟩, .string ⟨#[32]⟩, .string ⟨#[60, 32]⟩] 9)
      generalize wr.heap.size = gR at bR ⊢
      generalize wr.alloc (.cells #[.string ⟨#[61, 61]⟩, .string ⟨#[61, 62]⟩, .string ⟨#[61, 60]⟩, .string ⟨#[60, 62]⟩, .string ⟨#[33]⟩, .string ⟨#[32]⟩, .string ⟨#[60, 32]⟩] 9) = W1 at bR bK ⊢
      have HR := Lib.hid bR
      have HK := Lib.hid bK
      have rx0 := HR.out.cell 0
      have rx1 := HR.out.cell 1
      have rx2 := HR.out.cell 2
      have rx3 := HR.out.cell 3
      have rx4 := HR.out.cell 4
      have rx5 := HR.out.cell 5
      have rx6 := HR.out.cell 6
      clear bR bK
      refine wp_loop_rounds 8 ?_
      rw [rounds_succ]
      go_wp2_with (first
        | (go_at_call 11; with_reducible refine (P0 _).mono ?_; rintro e w5 ⟨rfl, hk5⟩; have HR := Lib.hid (hk5.box HR.out (fun h => h)); have rx0 := HR.out.cell 0; have rx1 := HR.out.cell 1; have rx2 := HR.out.cell 2; have rx3 := HR.out.cell 3; have rx4 := HR.out.cell 4; have rx5 := HR.out.cell 5; have rx6 := HR.out.cell 6; have HK := Lib.hid (Kept.trans HK.out hk5 (fun _ _ h => h)); clear hk5)
        | fail)
      rw [rounds_succ]
      go_wp2_with (first
        | (go_at_call 11; with_reducible refine (P1 _).mono ?_; rintro e w5 ⟨rfl, hk5⟩; have HR := Lib.hid (hk5.box HR.out (fun h => h)); have rx0 := HR.out.cell 0; have rx1 := HR.out.cell 1; have rx2 := HR.out.cell 2; have rx3 := HR.out.cell 3; have rx4 := HR.out.cell 4; have rx5 := HR.out.cell 5; have rx6 := HR.out.cell 6; have HK := Lib.hid (Kept.trans HK.out hk5 (fun _ _ h => h)); clear hk5)
        | fail)
      rw [rounds_succ]
      go_wp2_with (first
        | (go_at_call 11; with_reducible refine (P2 _).mono ?_; rintro e w5 ⟨rfl, hk5⟩; have HR := Lib.hid (hk5.box HR.out (fun h => h)); have rx0 := HR.out.cell 0; have rx1 := HR.out.cell 1; have rx2 := HR.out.cell 2; have rx3 := HR.out.cell 3; have rx4 := HR.out.cell 4; have rx5 := HR.out.cell 5; have rx6 := HR.out.cell 6; have HK := Lib.hid (Kept.trans HK.out hk5 (fun _ _ h => h)); clear hk5)
        | fail)
      rw [rounds_succ]
      go_wp2_with (first
        | (go_at_call 11; with_reducible refine (P3 _).mono ?_; rintro e w5 ⟨rfl, hk5⟩; have HR := Lib.hid (hk5.box HR.out (fun h => h)); have rx0 := HR.out.cell 0; have rx1 := HR.out.cell 1; have rx2 := HR.out.cell 2; have rx3 := HR.out.cell 3; have rx4 := HR.out.cell 4; have rx5 := HR.out.cell 5; have rx6 := HR.out.cell 6; have HK := Lib.hid (Kept.trans HK.out hk5 (fun _ _ h => h)); clear hk5)
        | fail)
      rw [rounds_succ]
      go_wp2_with (first
        | (go_at_call 11; with_reducible refine (P4 _).mono ?_; rintro e w5 ⟨rfl, hk5⟩; have HR := Lib.hid (hk5.box HR.out (fun h => h)); have rx0 := HR.out.cell 0; have rx1 := HR.out.cell 1; have rx2 := HR.out.cell 2; have rx3 := HR.out.cell 3; have rx4 := HR.out.cell 4; have rx5 := HR.out.cell 5; have rx6 := HR.out.cell 6; have HK := Lib.hid (Kept.trans HK.out hk5 (fun _ _ h => h)); clear hk5)
        | fail)
      rw [rounds_succ]
      go_wp2_with (first
        | (go_at_call 11; with_reducible refine (P5 _).mono ?_; rintro e w5 ⟨rfl, hk5⟩; have HR := Lib.hid (hk5.box HR.out (fun h => h)); have rx0 := HR.out.cell 0; have rx1 := HR.out.cell 1; have rx2 := HR.out.cell 2; have rx3 := HR.out.cell 3; have rx4 := HR.out.cell 4; have rx5 := HR.out.cell 5; have rx6 := HR.out.cell 6; have HK := Lib.hid (Kept.trans HK.out hk5 (fun _ _ h => h)); clear hk5)
        | fail)
      rw [rounds_succ]
      go_wp2_with (first
        | (go_at_call 11; with_reducible refine (P6 _).mono ?_; rintro e w5 ⟨rfl, hk5⟩; have HR := Lib.hid (hk5.box HR.out (fun h => h)); have rx0 := HR.out.cell 0; have rx1 := HR.out.cell 1; have rx2 := HR.out.cell 2; have rx3 := HR.out.cell 3; have rx4 := HR.out.cell 4; have rx5 := HR.out.cell 5; have rx6 := HR.out.cell 6; have HK := Lib.hid (Kept.trans HK.out hk5 (fun _ _ h => h)); clear hk5)
        | fail)
      rw [rounds_succ]
      clear P0 P1 P2 P3 P4 P5 P6
      go_wp2_with fail
      have bO := ((Box.made w5 5 #[.int .u8 1, .int .u8 2, .int .u8 3, .int .u8 4, .int .u8 6]).after_alloc (.cells #[.string ⟨#[49, 48, 49, 48, 48]⟩, .string ⟨#[49, 48, 49, 48, 48]⟩, .string ⟨#[49, 48, 49, 48, 48]⟩, .string ⟨#[49, 49, 49, 49, 49]⟩, .string ⟨#[49, 49, 49, 49, 49]⟩] 9)).after_alloc (.cells #[.string ⟨#[49, 48, 49, 48, 48]⟩, .string ⟨#[48, 49, 49, 48, 49]⟩, .string ⟨#[49, 49, 49, 48, 49]⟩, .string ⟨#[48, 48, 48, 49, 49]⟩, .string ⟨#[48, 49, 49, 49, 49]⟩] 9)
      have bL := (Box.made (w5.alloc (.cells #[.int .u8 1, .int .u8 2, .int .u8 3, .int .u8 4, .int .u8 6] 5)) 9 #[.string ⟨#[49, 48, 49, 48, 48]⟩, .string ⟨#[49, 48, 49, 48, 48]⟩, .string ⟨#[49, 48, 49, 48, 48]⟩, .string ⟨#[49, 49, 49, 49, 49]⟩, .string ⟨#[49, 49, 49, 49, 49]⟩]).after_alloc (.cells #[.string ⟨#[49, 48, 49, 48, 48]⟩, .string ⟨#[48, 49, 49, 48, 49]⟩, .string ⟨#[49, 49, 49, 48, 49]⟩, .string ⟨#[48, 48, 48, 49, 49]⟩, .string ⟨#[48, 49, 49, 49, 49]⟩] 9)
      have bS := Box.made ((w5.alloc (.cells #[.int .u8 1, .int .u8 2, .int .u8 3, .int .u8 4, .int .u8 6] 5)).alloc (.cells #[.string ⟨#[49, 48, 49, 48, 48]⟩, .string ⟨#[49, 48, 49, 48, 48]⟩, .string ⟨#[49, 48, 49, 48, 48]⟩, .string ⟨#[49, 49, 49, 49, 49]⟩, .string ⟨#[49, 49, 49, 49, 49]⟩] 9)) 9 #[.string ⟨#[49, 48, 49, 48, 48]⟩, .string ⟨#[48, 49, 49, 48, 49]⟩, .string ⟨#[49, 49, 49, 48, 49]⟩, .string ⟨#[48, 48, 48, 49, 49]⟩, .string ⟨#[48, 49, 49, 49, 49]⟩]
      rw [World.size_alloc] at bL
      rw [World.size_alloc, World.size_alloc] at bS
      have bK := ((HK.out.alloc (.cells #[.int .u8 1, .int .u8 2, .int .u8 3, .int .u8 4, .int .u8 6] 5)).alloc (.cells #[.string ⟨#[49, 48, 49, 48, 48]⟩, .string ⟨#[49, 48, 49, 48, 48]⟩, .string ⟨#[49, 48, 49, 48, 48]⟩, .string ⟨#[49, 49, 49, 49, 49]⟩, .string ⟨#[49, 49, 49, 49, 49]⟩] 9)).alloc (.cells #[.string ⟨#[49, 48, 49, 48, 48]⟩, .string ⟨#[48, 49, 49, 48, 49]⟩, .string ⟨#[49, 49, 49, 48, 49]⟩, .string ⟨#[48, 48, 48, 49, 49]⟩, .string ⟨#[48, 49, 49, 49, 49]⟩] 9)
      generalize (((w5.alloc (.cells #[.int .u8 1, .int .u8 2, .int .u8 3, .int .u8 4, .int .u8 6] 5)).alloc (.cells #[.string ⟨#[49, 48, 49, 48, 48]⟩, .string ⟨#[49, 48, 49, 48, 48]⟩, .string ⟨#[49, 48, 49, 48, 48]⟩, .string ⟨#[49, 49, 49, 49, 49]⟩, .string ⟨#[49, 49, 49, 49, 49]⟩] 9)).alloc (.cells #[.string ⟨#[49, 48, 49, 48, 48]⟩, .string ⟨#[48, 49, 49, 48, 49]⟩, .string ⟨#[49, 49, 49, 48, 49]⟩, .string ⟨#[48, 48, 48, 49, 49]⟩, .string ⟨#[48, 49, 49, 49, 49]⟩] 9)) = W2 at bO bL bS bK ⊢
      generalize w5.heap.size + 1 + 1 = g3 at bS ⊢
      generalize w5.heap.size + 1 = g2 at bL ⊢
      generalize w5.heap.size = g1 at bO ⊢
      clear HR HK
      have hW := awake_walk
      go_loopw [12] (fun v12 wo => ∃ i : Nat, v12 = .int .i64 (i : Int) ∧ i ≤ 5 ∧ (Box wo g1 5 #[.int .u8 1, .int .u8 2, .int .u8 3, .int .u8 4, .int .u8 6] ∧ Box wo g2 9 #[.string ⟨#[49, 48, 49, 48, 48]⟩, .string ⟨#[49, 48, 49, 48, 48]⟩, .string ⟨#[49, 48, 49, 48, 48]⟩, .string ⟨#[49, 49, 49, 49, 49]⟩, .string ⟨#[49, 49, 49, 49, 49]⟩] ∧ Box wo g3 9 #[.string ⟨#[49, 48, 49, 48, 48]⟩, .string ⟨#[48, 49, 49, 48, 49]⟩, .string ⟨#[49, 49, 49, 48, 49]⟩, .string ⟨#[48, 48, 48, 49, 49]⟩, .string ⟨#[48, 49, 49, 49, 49]⟩]) ∧ Kept (fun _ => False) w wo) (fun v12 _ => 5 - (intOf v12).toNat)
      case atStart => exact ⟨0, rfl, Nat.zero_le _, ⟨bO, bL, bS⟩, bK⟩
      case round =>
        clear bO bL bS bK
        obtain ⟨i, rfl, hi, hbs, hk⟩ := hrel
        by_cases hi5 : i < 5
        · have hiI : (i : Int) < 5 := by omega
          have hi0 : (0 : Int) ≤ (i : Int) := by omega
          have HBS := Lib.hid hbs
          have HK := Lib.hid hk
          clear hbs hk
          go_wp2_with fail
          go_loopw [13] (fun v13 wo => ∃ k : Nat, v13 = .int .i64 (k : Int) ∧ k ≤ 5 ∧ (Box wo g1 5 #[.int .u8 1, .int .u8 2, .int .u8 3, .int .u8 4, .int .u8 6] ∧ Box wo g2 9 #[.string ⟨#[49, 48, 49, 48, 48]⟩, .string ⟨#[49, 48, 49, 48, 48]⟩, .string ⟨#[49, 48, 49, 48, 48]⟩, .string ⟨#[49, 49, 49, 49, 49]⟩, .string ⟨#[49, 49, 49, 49, 49]⟩] ∧ Box wo g3 9 #[.string ⟨#[49, 48, 49, 48, 48]⟩, .string ⟨#[48, 49, 49, 48, 49]⟩, .string ⟨#[49, 49, 49, 48, 49]⟩, .string ⟨#[48, 48, 48, 49, 49]⟩, .string ⟨#[48, 49, 49, 49, 49]⟩]) ∧ Kept (fun _ => False) w wo) (fun v13 _ => 5 - (intOf v13).toNat)
          case atStart => exact ⟨0, rfl, Nat.zero_le _, HBS.out, HK.out⟩
          case round =>
            clear HBS HK
            obtain ⟨k, rfl, hk, hbs, hkk⟩ := hrel
            by_cases hk5 : k < 5
            · have hkI : (k : Int) < 5 := by omega
              have hk0 : (0 : Int) ≤ (k : Int) := by omega
              obtain ⟨zs, zt, c, d, hc, hd, hp1, hp2, hp3⟩ := tableN hi5 hk5
              have M1 := fun W => meet_k ⟨#[97]⟩ (opN i) 0 ⟨#[49]⟩ ⟨#[49]⟩ ⟨#[98]⟩ (opN k) 0 ⟨#[50]⟩ ⟨#[49]⟩ W (opN_lt i) (opN_lt k) (by decide) (by decide) (by decide) (by decide)
              have M2 := fun W => meet_k ⟨#[98]⟩ (opN k) 0 ⟨#[50]⟩ ⟨#[49]⟩ ⟨#[97]⟩ (opN i) 0 ⟨#[49]⟩ ⟨#[49]⟩ W (opN_lt k) (opN_lt i) (by decide) (by decide) (by decide) (by decide)
              have M3 := fun W => meet_k ⟨#[97]⟩ (opN i) 0 ⟨#[49]⟩ ⟨#[49]⟩ ⟨#[97]⟩ (opN k) 0 ⟨#[49]⟩ ⟨#[49]⟩ W (opN_lt i) (opN_lt k) (by decide) (by decide) (by decide) (by decide)
              rw [show cmpE (evrE 0 ⟨#[49]⟩ ⟨#[49]⟩) (evrE 0 ⟨#[50]⟩ ⟨#[49]⟩) = -1 by kernel_rfl] at M1
              rw [show cmpE (evrE 0 ⟨#[50]⟩ ⟨#[49]⟩) (evrE 0 ⟨#[49]⟩ ⟨#[49]⟩) = 1 by kernel_rfl, hp3] at M2
              rw [show cmpE (evrE 0 ⟨#[49]⟩ ⟨#[49]⟩) (evrE 0 ⟨#[49]⟩ ⟨#[49]⟩) = 0 by kernel_rfl] at M3
              have xo := opN_cell hi5
              have xk := opN_cell hk5
              have xl := lessN_cell hi5
              have xs := sameN_cell hi5
              have fO : ∀ j v, (#[.int .u8 1, .int .u8 2, .int .u8 3, .int .u8 4, .int .u8 6] : Array Value)[j]? = some v → ∀ W, Kept (fun _ => False) wr W → W.cell? ⟨g1, j, none⟩ = some v := fun j v hj W hW => ((hW.box hbs.1 (fun h => h)).cell j).trans hj
              have fL : ∀ W, Kept (fun _ => False) wr W → W.cell? ⟨g2, i, none⟩ = some (.string (lessN i)) := fun W hW => ((hW.box hbs.2.1 (fun h => h)).cell i).trans xl
              have fS : ∀ W, Kept (fun _ => False) wr W → W.cell? ⟨g3, i, none⟩ = some (.string (sameN i)) := fun W hW => ((hW.box hbs.2.2 (fun h => h)).cell i).trans xs
              generalize meetO (opN i) (opN k) (-1) = p1 at hp1 M1 M2
              generalize meetO (opN i) (opN k) 0 = p2 at hp2 M3
              have fi := fO i _ xo
              have fk := fO k _ xk
              clear hp3 xo xk xl xs fO
              generalize opN i = oi at fi M1 M2 M3
              generalize opN k = ok at fk M1 M2 M3
              generalize lessN i = sl at fL zs hc
              generalize sameN i = ss at fS zt hd
              have hcc := hc (by omega)
              have hdd := hd (by omega)
              clear hc hd
              have hc256 : c.toNat < 256 := UInt8.toNat_lt c
              have hd256 : d.toNat < 256 := UInt8.toNat_lt d
              have l0 := fi wr (Kept.refl _ _)
              have l1 : ∀ ob, (wr.alloc ob).cell? ⟨g1, k, none⟩ = some (.int .u8 (ok : Int)) := fun ob => fk _ ((Kept.refl _ _).alloc _)
              have l3 : ∀ ob1 ob2 ob3, (((wr.alloc ob1).alloc ob2).alloc ob3).cell? ⟨g1, k, none⟩ = some (.int .u8 (ok : Int)) := fun ob1 ob2 ob3 => fk _ ((((Kept.refl _ _).alloc _).alloc _).alloc _)
              have HBS := Lib.hid hbs
              have HKK := Lib.hid hkk
              have HFL := Lib.hid fL
              have HFS2 := Lib.hid fS
              clear hbs hkk fi fk fL fS
              go_wp2_with fail
              have bA := ((Box.made wr 31 #[.string ⟨#[97]⟩, .int .u8 (oi : Int), .int .i64 0, .string ⟨#[49]⟩, .string ⟨#[49]⟩]).after_alloc (.cells #[.string ⟨#[98]⟩, .int .u8 (ok : Int), .int .i64 0, .string ⟨#[50]⟩, .string ⟨#[49]⟩] 31)).after_alloc (.cells #[.string ⟨#[97]⟩, .int .u8 (ok : Int), .int .i64 0, .string ⟨#[49]⟩, .string ⟨#[49]⟩] 31)
              have bB := (Box.made (wr.alloc (.cells #[.string ⟨#[97]⟩, .int .u8 (oi : Int), .int .i64 0, .string ⟨#[49]⟩, .string ⟨#[49]⟩] 31)) 31 #[.string ⟨#[98]⟩, .int .u8 (ok : Int), .int .i64 0, .string ⟨#[50]⟩, .string ⟨#[49]⟩]).after_alloc (.cells #[.string ⟨#[97]⟩, .int .u8 (ok : Int), .int .i64 0, .string ⟨#[49]⟩, .string ⟨#[49]⟩] 31)
              have bC := Box.made ((wr.alloc (.cells #[.string ⟨#[97]⟩, .int .u8 (oi : Int), .int .i64 0, .string ⟨#[49]⟩, .string ⟨#[49]⟩] 31)).alloc (.cells #[.string ⟨#[98]⟩, .int .u8 (ok : Int), .int .i64 0, .string ⟨#[50]⟩, .string ⟨#[49]⟩] 31)) 31 #[.string ⟨#[97]⟩, .int .u8 (ok : Int), .int .i64 0, .string ⟨#[49]⟩, .string ⟨#[49]⟩]
              rw [World.size_alloc] at bB
              rw [World.size_alloc, World.size_alloc] at bC
              have bK : Kept (fun _ => False) wr (((wr.alloc (.cells #[.string ⟨#[97]⟩, .int .u8 (oi : Int), .int .i64 0, .string ⟨#[49]⟩, .string ⟨#[49]⟩] 31)).alloc (.cells #[.string ⟨#[98]⟩, .int .u8 (ok : Int), .int .i64 0, .string ⟨#[50]⟩, .string ⟨#[49]⟩] 31)).alloc (.cells #[.string ⟨#[97]⟩, .int .u8 (ok : Int), .int .i64 0, .string ⟨#[49]⟩, .string ⟨#[49]⟩] 31)) := (((Kept.refl _ _).alloc _).alloc _).alloc _
              generalize ((wr.alloc (.cells #[.string ⟨#[97]⟩, .int .u8 (oi : Int), .int .i64 0, .string ⟨#[49]⟩, .string ⟨#[49]⟩] 31)).alloc (.cells #[.string ⟨#[98]⟩, .int .u8 (ok : Int), .int .i64 0, .string ⟨#[50]⟩, .string ⟨#[49]⟩] 31)).alloc (.cells #[.string ⟨#[97]⟩, .int .u8 (ok : Int), .int .i64 0, .string ⟨#[49]⟩, .string ⟨#[49]⟩] 31) = W3 at bA bB bC bK ⊢
              generalize wr.heap.size + 1 + 1 = gC at bC ⊢
              generalize wr.heap.size + 1 = gB at bB ⊢
              generalize wr.heap.size = gA at bA ⊢
              have HA := Lib.hid bA
              have HB := Lib.hid bB
              have HC := Lib.hid bC
              have HK := Lib.hid bK
              clear bA bB bC bK l0 l1 l3
              obtain ⟨T, F, t0, ht0, hFk, hFs⟩ := class_of W3
              have qa0 : ∀ t, (F t).cell? ⟨gA, 0, none⟩ = some (.string ⟨#[97]⟩) := fun t => ((hFk t).box HA.out (fun h => h)).cell 0
              have qa1 : ∀ t, (F t).cell? ⟨gA, 1, none⟩ = some (.int .u8 (oi : Int)) := fun t => ((hFk t).box HA.out (fun h => h)).cell 1
              have qa2 : ∀ t, (F t).cell? ⟨gA, 2, none⟩ = some (.int .i64 0) := fun t => ((hFk t).box HA.out (fun h => h)).cell 2
              have qa3 : ∀ t, (F t).cell? ⟨gA, 3, none⟩ = some (.string ⟨#[49]⟩) := fun t => ((hFk t).box HA.out (fun h => h)).cell 3
              have qa4 : ∀ t, (F t).cell? ⟨gA, 4, none⟩ = some (.string ⟨#[49]⟩) := fun t => ((hFk t).box HA.out (fun h => h)).cell 4
              have qb0 : ∀ t, (F t).cell? ⟨gB, 0, none⟩ = some (.string ⟨#[98]⟩) := fun t => ((hFk t).box HB.out (fun h => h)).cell 0
              have qb1 : ∀ t, (F t).cell? ⟨gB, 1, none⟩ = some (.int .u8 (ok : Int)) := fun t => ((hFk t).box HB.out (fun h => h)).cell 1
              have qb2 : ∀ t, (F t).cell? ⟨gB, 2, none⟩ = some (.int .i64 0) := fun t => ((hFk t).box HB.out (fun h => h)).cell 2
              have qb3 : ∀ t, (F t).cell? ⟨gB, 3, none⟩ = some (.string ⟨#[50]⟩) := fun t => ((hFk t).box HB.out (fun h => h)).cell 3
              have qb4 : ∀ t, (F t).cell? ⟨gB, 4, none⟩ = some (.string ⟨#[49]⟩) := fun t => ((hFk t).box HB.out (fun h => h)).cell 4
              have qc0 : ∀ t, (F t).cell? ⟨gC, 0, none⟩ = some (.string ⟨#[97]⟩) := fun t => ((hFk t).box HC.out (fun h => h)).cell 0
              have qc1 : ∀ t, (F t).cell? ⟨gC, 1, none⟩ = some (.int .u8 (ok : Int)) := fun t => ((hFk t).box HC.out (fun h => h)).cell 1
              have qc2 : ∀ t, (F t).cell? ⟨gC, 2, none⟩ = some (.int .i64 0) := fun t => ((hFk t).box HC.out (fun h => h)).cell 2
              have qc3 : ∀ t, (F t).cell? ⟨gC, 3, none⟩ = some (.string ⟨#[49]⟩) := fun t => ((hFk t).box HC.out (fun h => h)).cell 3
              have qc4 : ∀ t, (F t).cell? ⟨gC, 4, none⟩ = some (.string ⟨#[49]⟩) := fun t => ((hFk t).box HC.out (fun h => h)).cell 4
              have HFK := Lib.hid hFk
              have HFS := Lib.hid hFs
              clear hFk hFs
              have ql : ∀ t, (F t).cell? ⟨g2, i, none⟩ = some (.string sl) := fun t => HFL.out _ (HK.out.trans (HFK.out t) (fun _ _ h => h))
              have qs : ∀ t, (F t).cell? ⟨g3, i, none⟩ = some (.string ss) := fun t => HFS2.out _ (HK.out.trans (HFK.out t) (fun _ _ h => h))
              have hne : Nonempty T := ⟨t0⟩
              have hn1 : (p1 != p1) = false := by cases p1 <;> rfl
              have hn2 : (p2 != p2) = false := by cases p2 <;> rfl
              refine wp_region_class F t0 ht0 (by kernel_rfl) (by kernel_rfl) ?_
              repeat (go_big_quiet_step (first
                | (go_at_call 18; (first | with_reducible exact class_call HFS.out (M1 _) | with_reducible exact class_call HFS.out (M2 _) | with_reducible exact class_call HFS.out (M3 _)))))
              refine wpQuiet_nil ?_
              rintro _ ⟨tz, rfl⟩
              have hkz := HK.out.trans (HFK.out tz) (fun _ _ h => h)
              go_wp2_with fail
              go_roundw
              case rel => exact ⟨k + 1, by go_num, by omega, ⟨hkz.box HBS.out.1 (fun h => h), hkz.box HBS.out.2.1 (fun h => h), hkz.box HBS.out.2.2 (fun h => h)⟩, HKK.out.trans hkz (fun _ _ h => h)⟩
              case measure => first | (simp [intOf]; done) | (simp [intOf]; omega)
            · obtain rfl : k = 5 := by omega
              go_wp2_with fail
              go_roundw
              case rel => exact ⟨i + 1, by go_num, by omega, hbs, hkk⟩
              case measure => first | (simp [intOf]; done) | (simp [intOf]; omega)
        · obtain rfl : i = 5 := by omega
          clear hi hi5
          have N1 : ∀ W : World, Calls Tryd.prog 18 #[.agg #[.string ⟨#[]⟩, .int .u8 (0), .int .i64 0, .string ⟨#[49]⟩, .string ⟨#[]⟩], .agg #[.string ⟨#[]⟩, .int .u8 (2), .int .i64 0, .string ⟨#[49]⟩, .string ⟨#[57]⟩]] W fun e w' => e = .returned (.bool true) ∧ Kept (fun _ => False) W w' := fun W => by
            have h := meet_k ⟨#[]⟩ 0 0 ⟨#[49]⟩ ⟨#[]⟩ ⟨#[]⟩ 2 0 ⟨#[49]⟩ ⟨#[57]⟩ W (by decide) (by decide) (by decide) (by decide) (by decide) (by decide)
            rw [show meetO 0 2 (cmpE (evrE 0 ⟨#[49]⟩ ⟨#[]⟩) (evrE 0 ⟨#[49]⟩ ⟨#[57]⟩)) = true by kernel_rfl] at h
            exact h
          have N2 : ∀ W : World, Calls Tryd.prog 18 #[.agg #[.string ⟨#[]⟩, .int .u8 (2), .int .i64 0, .string ⟨#[49]⟩, .string ⟨#[57]⟩], .agg #[.string ⟨#[]⟩, .int .u8 (0), .int .i64 0, .string ⟨#[49]⟩, .string ⟨#[]⟩]] W fun e w' => e = .returned (.bool true) ∧ Kept (fun _ => False) W w' := fun W => by
            have h := meet_k ⟨#[]⟩ 2 0 ⟨#[49]⟩ ⟨#[57]⟩ ⟨#[]⟩ 0 0 ⟨#[49]⟩ ⟨#[]⟩ W (by decide) (by decide) (by decide) (by decide) (by decide) (by decide)
            rw [show meetO 2 0 (cmpE (evrE 0 ⟨#[49]⟩ ⟨#[57]⟩) (evrE 0 ⟨#[49]⟩ ⟨#[]⟩)) = true by kernel_rfl] at h
            exact h
          have N3 : ∀ W : World, Calls Tryd.prog 20 #[.agg #[.string ⟨#[]⟩, .int .u8 (0), .int .i64 0, .string ⟨#[49]⟩, .string ⟨#[]⟩], .agg #[.int .i64 0, .string ⟨#[]⟩, .string ⟨#[]⟩]] W fun e w' => e = .returned (.bool true) ∧ Kept (fun _ => False) W w' := fun W => by
            have h := has_k ⟨#[]⟩ 0 0 ⟨#[49]⟩ ⟨#[]⟩ 0 ⟨#[]⟩ ⟨#[]⟩ W (by decide) (by decide) (by decide) (by decide) (by decide)
            rw [show hasO 0 (cmpE (evrE 0 ⟨#[]⟩ ⟨#[]⟩) (evrE 0 ⟨#[49]⟩ ⟨#[]⟩)) = true by kernel_rfl] at h
            exact h
          have N4 : ∀ W : World, Calls Tryd.prog 18 #[.agg #[.string ⟨#[]⟩, .int .u8 (2), .int .i64 0, .string ⟨#[49]⟩, .string ⟨#[]⟩], .agg #[.string ⟨#[]⟩, .int .u8 (2), .int .i64 0, .string ⟨#[49]⟩, .string ⟨#[57]⟩]] W fun e w' => e = .returned (.bool true) ∧ Kept (fun _ => False) W w' := fun W => by
            have h := meet_k ⟨#[]⟩ 2 0 ⟨#[49]⟩ ⟨#[]⟩ ⟨#[]⟩ 2 0 ⟨#[49]⟩ ⟨#[57]⟩ W (by decide) (by decide) (by decide) (by decide) (by decide) (by decide)
            rw [show meetO 2 2 (cmpE (evrE 0 ⟨#[49]⟩ ⟨#[]⟩) (evrE 0 ⟨#[49]⟩ ⟨#[57]⟩)) = true by kernel_rfl] at h
            exact h
          have N5 : ∀ W : World, Calls Tryd.prog 18 #[.agg #[.string ⟨#[]⟩, .int .u8 (2), .int .i64 0, .string ⟨#[49]⟩, .string ⟨#[]⟩], .agg #[.string ⟨#[]⟩, .int .u8 (2), .int .i64 0, .string ⟨#[49]⟩, .string ⟨#[56]⟩]] W fun e w' => e = .returned (.bool true) ∧ Kept (fun _ => False) W w' := fun W => by
            have h := meet_k ⟨#[]⟩ 2 0 ⟨#[49]⟩ ⟨#[]⟩ ⟨#[]⟩ 2 0 ⟨#[49]⟩ ⟨#[56]⟩ W (by decide) (by decide) (by decide) (by decide) (by decide) (by decide)
            rw [show meetO 2 2 (cmpE (evrE 0 ⟨#[49]⟩ ⟨#[]⟩) (evrE 0 ⟨#[49]⟩ ⟨#[56]⟩)) = true by kernel_rfl] at h
            exact h
          have N6 : ∀ W : World, Calls Tryd.prog 18 #[.agg #[.string ⟨#[]⟩, .int .u8 (2), .int .i64 0, .string ⟨#[49]⟩, .string ⟨#[57]⟩], .agg #[.string ⟨#[]⟩, .int .u8 (2), .int .i64 0, .string ⟨#[49]⟩, .string ⟨#[56]⟩]] W fun e w' => e = .returned (.bool false) ∧ Kept (fun _ => False) W w' := fun W => by
            have h := meet_k ⟨#[]⟩ 2 0 ⟨#[49]⟩ ⟨#[57]⟩ ⟨#[]⟩ 2 0 ⟨#[49]⟩ ⟨#[56]⟩ W (by decide) (by decide) (by decide) (by decide) (by decide) (by decide)
            rw [show meetO 2 2 (cmpE (evrE 0 ⟨#[49]⟩ ⟨#[57]⟩) (evrE 0 ⟨#[49]⟩ ⟨#[56]⟩)) = false by kernel_rfl] at h
            exact h
          have N7 : ∀ W : World, Calls Tryd.prog 20 #[.agg #[.string ⟨#[]⟩, .int .u8 (2), .int .i64 0, .string ⟨#[49]⟩, .string ⟨#[]⟩], .agg #[.int .i64 0, .string ⟨#[49]⟩, .string ⟨#[57]⟩]] W fun e w' => e = .returned (.bool true) ∧ Kept (fun _ => False) W w' := fun W => by
            have h := has_k ⟨#[]⟩ 2 0 ⟨#[49]⟩ ⟨#[]⟩ 0 ⟨#[49]⟩ ⟨#[57]⟩ W (by decide) (by decide) (by decide) (by decide) (by decide)
            rw [show hasO 2 (cmpE (evrE 0 ⟨#[49]⟩ ⟨#[57]⟩) (evrE 0 ⟨#[49]⟩ ⟨#[]⟩)) = true by kernel_rfl] at h
            exact h
          have N8 : ∀ W : World, Calls Tryd.prog 20 #[.agg #[.string ⟨#[]⟩, .int .u8 (2), .int .i64 0, .string ⟨#[49]⟩, .string ⟨#[57]⟩], .agg #[.int .i64 0, .string ⟨#[49]⟩, .string ⟨#[]⟩]] W fun e w' => e = .returned (.bool true) ∧ Kept (fun _ => False) W w' := fun W => by
            have h := has_k ⟨#[]⟩ 2 0 ⟨#[49]⟩ ⟨#[57]⟩ 0 ⟨#[49]⟩ ⟨#[]⟩ W (by decide) (by decide) (by decide) (by decide) (by decide)
            rw [show hasO 2 (cmpE (evrE 0 ⟨#[49]⟩ ⟨#[]⟩) (evrE 0 ⟨#[49]⟩ ⟨#[57]⟩)) = true by kernel_rfl] at h
            exact h
          have HKK := Lib.hid hk
          have bY := (((Box.made wr 31 #[.string ⟨#[]⟩, .int .u8 (0), .int .i64 0, .string ⟨#[49]⟩, .string ⟨#[]⟩]).after_alloc (.cells #[.string ⟨#[]⟩, .int .u8 (2), .int .i64 0, .string ⟨#[49]⟩, .string ⟨#[]⟩] 31)).after_alloc (.cells #[.string ⟨#[]⟩, .int .u8 (2), .int .i64 0, .string ⟨#[49]⟩, .string ⟨#[57]⟩] 31)).after_alloc (.cells #[.string ⟨#[]⟩, .int .u8 (2), .int .i64 0, .string ⟨#[49]⟩, .string ⟨#[56]⟩] 31)
          have bO := ((Box.made (wr.alloc (.cells #[.string ⟨#[]⟩, .int .u8 (0), .int .i64 0, .string ⟨#[49]⟩, .string ⟨#[]⟩] 31)) 31 #[.string ⟨#[]⟩, .int .u8 (2), .int .i64 0, .string ⟨#[49]⟩, .string ⟨#[]⟩]).after_alloc (.cells #[.string ⟨#[]⟩, .int .u8 (2), .int .i64 0, .string ⟨#[49]⟩, .string ⟨#[57]⟩] 31)).after_alloc (.cells #[.string ⟨#[]⟩, .int .u8 (2), .int .i64 0, .string ⟨#[49]⟩, .string ⟨#[56]⟩] 31)
          rw [World.size_alloc] at bO
          have bU := (Box.made ((wr.alloc (.cells #[.string ⟨#[]⟩, .int .u8 (0), .int .i64 0, .string ⟨#[49]⟩, .string ⟨#[]⟩] 31)).alloc (.cells #[.string ⟨#[]⟩, .int .u8 (2), .int .i64 0, .string ⟨#[49]⟩, .string ⟨#[]⟩] 31)) 31 #[.string ⟨#[]⟩, .int .u8 (2), .int .i64 0, .string ⟨#[49]⟩, .string ⟨#[57]⟩]).after_alloc (.cells #[.string ⟨#[]⟩, .int .u8 (2), .int .i64 0, .string ⟨#[49]⟩, .string ⟨#[56]⟩] 31)
          rw [World.size_alloc, World.size_alloc] at bU
          have bV := Box.made (((wr.alloc (.cells #[.string ⟨#[]⟩, .int .u8 (0), .int .i64 0, .string ⟨#[49]⟩, .string ⟨#[]⟩] 31)).alloc (.cells #[.string ⟨#[]⟩, .int .u8 (2), .int .i64 0, .string ⟨#[49]⟩, .string ⟨#[]⟩] 31)).alloc (.cells #[.string ⟨#[]⟩, .int .u8 (2), .int .i64 0, .string ⟨#[49]⟩, .string ⟨#[57]⟩] 31)) 31 #[.string ⟨#[]⟩, .int .u8 (2), .int .i64 0, .string ⟨#[49]⟩, .string ⟨#[56]⟩]
          rw [World.size_alloc, World.size_alloc, World.size_alloc] at bV
          have bK := ((((HKK.out.alloc (.cells #[.string ⟨#[]⟩, .int .u8 (0), .int .i64 0, .string ⟨#[49]⟩, .string ⟨#[]⟩] 31)).alloc (.cells #[.string ⟨#[]⟩, .int .u8 (2), .int .i64 0, .string ⟨#[49]⟩, .string ⟨#[]⟩] 31)).alloc (.cells #[.string ⟨#[]⟩, .int .u8 (2), .int .i64 0, .string ⟨#[49]⟩, .string ⟨#[57]⟩] 31)).alloc (.cells #[.string ⟨#[]⟩, .int .u8 (2), .int .i64 0, .string ⟨#[49]⟩, .string ⟨#[56]⟩] 31))
          have HY := Lib.hid bY
          have HO := Lib.hid bO
          have HU := Lib.hid bU
          have HV := Lib.hid bV
          have HK := Lib.hid bK
          clear bY bO bU bV bK hk hbs
          go_wp2_with (first
            | (go_at_call 18; (first | with_reducible refine (N1 _).mono ?_ | with_reducible refine (N2 _).mono ?_ | with_reducible refine (N4 _).mono ?_ | with_reducible refine (N5 _).mono ?_ | with_reducible refine (N6 _).mono ?_); rintro e w6 ⟨rfl, hk6⟩; have HY := Lib.hid (hk6.box HY.out (fun h => h)); have HO := Lib.hid (hk6.box HO.out (fun h => h)); have HU := Lib.hid (hk6.box HU.out (fun h => h)); have HV := Lib.hid (hk6.box HV.out (fun h => h)); have yx0 := HY.out.cell 0; have yx1 := HY.out.cell 1; have yx2 := HY.out.cell 2; have yx3 := HY.out.cell 3; have yx4 := HY.out.cell 4; have ox0 := HO.out.cell 0; have ox1 := HO.out.cell 1; have ox2 := HO.out.cell 2; have ox3 := HO.out.cell 3; have ox4 := HO.out.cell 4; have ux0 := HU.out.cell 0; have ux1 := HU.out.cell 1; have ux2 := HU.out.cell 2; have ux3 := HU.out.cell 3; have ux4 := HU.out.cell 4; have vx0 := HV.out.cell 0; have vx1 := HV.out.cell 1; have vx2 := HV.out.cell 2; have vx3 := HV.out.cell 3; have vx4 := HV.out.cell 4; have HK := Lib.hid (Kept.trans HK.out hk6 (fun _ _ h => h)); clear hk6)
            | (go_at_call 20; (first | with_reducible refine (N3 _).mono ?_ | with_reducible refine (N7 _).mono ?_ | with_reducible refine (N8 _).mono ?_); rintro e w6 ⟨rfl, hk6⟩; have HY := Lib.hid (hk6.box HY.out (fun h => h)); have HO := Lib.hid (hk6.box HO.out (fun h => h)); have HU := Lib.hid (hk6.box HU.out (fun h => h)); have HV := Lib.hid (hk6.box HV.out (fun h => h)); have yx0 := HY.out.cell 0; have yx1 := HY.out.cell 1; have yx2 := HY.out.cell 2; have yx3 := HY.out.cell 3; have yx4 := HY.out.cell 4; have ox0 := HO.out.cell 0; have ox1 := HO.out.cell 1; have ox2 := HO.out.cell 2; have ox3 := HO.out.cell 3; have ox4 := HO.out.cell 4; have ux0 := HU.out.cell 0; have ux1 := HU.out.cell 1; have ux2 := HU.out.cell 2; have ux3 := HU.out.cell 3; have ux4 := HU.out.cell 4; have vx0 := HV.out.cell 0; have vx1 := HV.out.cell 1; have vx2 := HV.out.cell 2; have vx3 := HV.out.cell 3; have vx4 := HV.out.cell 4; have HK := Lib.hid (Kept.trans HK.out hk6 (fun _ _ h => h)); clear hk6)
            | (go_at_call 10; with_reducible refine (hW _).mono ?_; rintro e w6 ⟨rfl, hk6⟩; have HY := Lib.hid (hk6.box HY.out (fun h => h)); have HO := Lib.hid (hk6.box HO.out (fun h => h)); have HU := Lib.hid (hk6.box HU.out (fun h => h)); have HV := Lib.hid (hk6.box HV.out (fun h => h)); have yx0 := HY.out.cell 0; have yx1 := HY.out.cell 1; have yx2 := HY.out.cell 2; have yx3 := HY.out.cell 3; have yx4 := HY.out.cell 4; have ox0 := HO.out.cell 0; have ox1 := HO.out.cell 1; have ox2 := HO.out.cell 2; have ox3 := HO.out.cell 3; have ox4 := HO.out.cell 4; have ux0 := HU.out.cell 0; have ux1 := HU.out.cell 1; have ux2 := HU.out.cell 2; have ux3 := HU.out.cell 3; have ux4 := HU.out.cell 4; have vx0 := HV.out.cell 0; have vx1 := HV.out.cell 1; have vx2 := HV.out.cell 2; have vx3 := HV.out.cell 3; have vx4 := HV.out.cell 4; have HK := Lib.hid (Kept.trans HK.out hk6 (fun _ _ h => h)); clear hk6)
            | fail)
          go_ret
          exact ⟨rfl, HK.out⟩
end Go.Proofs.YtjjjelgjjdgldaaDoor
