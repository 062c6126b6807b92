/-
  The walks over the laws of layer 5. Conditions: the two tables lie as the program's text lays them.
-/
import Derived.Test.YtfhihkgaokhjbaaDoorRef05
namespace Go.Proofs.YtfhihkgaokhjbaaDoor
open Go.RowKit Arch

theorem parse_name (a : Nat) : parse (nameB a) = if known a = true then (a, 0) else (0, 5) := by
  by_cases h : a = 1 ∨ a = 2 ∨ a = 3 ∨ a = 4
  · rcases h with rfl | rfl | rfl | rfl <;> simp [parse, ByteArray.toList_eq, nameB, nm1, nm2, nm3, nm4, known]
  · have e : nameB a = ⟨#[]⟩ := by unfold nameB; rw [if_neg (by omega), if_neg (by omega), if_neg (by omega), if_neg (by omega)]
    have k : known a = false := by simp [known]; omega
    rw [e, k]
    simp [parse, ByteArray.toList_eq, nm1, nm2, nm3, nm4]
theorem name_ne (a b : Nat) (h : known a = true) (hn : a ≠ b) : ((nameB a).toList == (nameB b).toList) = false := by
  have ha : a = 1 ∨ a = 2 ∨ a = 3 ∨ a = 4 := by simp [known] at h; omega
  by_cases hb : b = 1 ∨ b = 2 ∨ b = 3 ∨ b = 4
  · rcases ha with rfl | rfl | rfl | rfl <;> rcases hb with rfl | rfl | rfl | rfl <;> first | exact absurd rfl hn | simp [ByteArray.toList_eq, nameB, nm1, nm2, nm3, nm4]
  · have e : nameB b = ⟨#[]⟩ := by unfold nameB; rw [if_neg (by omega), if_neg (by omega), if_neg (by omega), if_neg (by omega)]
    rw [e]
    rcases ha with rfl | rfl | rfl | rfl <;> simp [ByteArray.toList_eq, nameB, nm1, nm2, nm3, nm4]

theorem apart_sym (a b : Nat) : apart b a = apart a b := by unfold apart; rw [Bool.and_comm (mach b)]; congr 1; exact decide_eq_decide.2 ⟨Ne.symm, Ne.symm⟩
theorem follows_sym (a b : Nat) : follows b a = follows a b := by unfold follows; rw [apart_sym, Bool.and_comm (known b)]
section
variable (W : World) (hW : ArchW W)
include hW
set_option maxRecDepth 100000 in
set_option maxHeartbeats 2000000 in
theorem tells5_walk (a b : Nat) (ha : a < 256) (hb : b < 256) (s : ByteArray) : Pure 4 #[.int .u8 (a : Int), .int .u8 (b : Int), .string s] (.bool true) W := by
  by_cases h : 1000 < s.size
  · have n1 : (1000 : Int) < (s.size : Int) := by omega
    go_enter Tryd.func4, Tryd.ntmps4
    go_wp2_with fail
    go_ret
    exact ⟨rfl, rfl⟩
  · have n1 : ¬ (1000 : Int) < (s.size : Int) := by omega
    have P1 := parse_k5 W hW.toNamesW s
    have P2 := parse5 W s
    have N1 := name_k W hW.toNamesW a ha
    have N2 := name5 W a
    have M1 := machine_k W a ha
    have M2 := machine5 W a ha
    have F1 := fits_k W hW.toScoresW a b ha hb
    have F2 := fits5 W a b ha
    have S1 := score_k W hW.toScoresW a b ha hb
    have S2 := score5 W a b ha
    have A1 := apart_k W a b ha hb
    have A2 := apart5 W a b ha hb
    have G1 := follows_k W a b ha hb
    have G2 := follows5 W a b
    generalize (parse s).1 = p1 at P1 P2
    generalize (parse s).2 = p2 at P1 P2
    generalize nameB a = x1 at N1 N2
    generalize mach a = x2 at M1 M2
    generalize fits a b = x3 at F1 F2
    generalize score a b = x4 at S1 S2
    generalize apart a b = x5 at A1 A2
    generalize follows a b = x6 at G1 G2
    go_enter Tryd.func4, Tryd.ntmps4
    go_wp2_with (first
      | (go_at_call 8; (first | with_reducible refine P1.mono ?_); rintro e w1 ⟨rfl, rfl⟩)
      | (go_at_call 15; (first | with_reducible refine P2.mono ?_); rintro e w1 ⟨rfl, rfl⟩)
      | (go_at_call 9; (first | with_reducible refine N1.mono ?_); rintro e w1 ⟨rfl, rfl⟩)
      | (go_at_call 16; (first | with_reducible refine N2.mono ?_); rintro e w1 ⟨rfl, rfl⟩)
      | (go_at_call 10; (first | with_reducible refine M1.mono ?_); rintro e w1 ⟨rfl, rfl⟩)
      | (go_at_call 17; (first | with_reducible refine M2.mono ?_); rintro e w1 ⟨rfl, rfl⟩)
      | (go_at_call 13; (first | with_reducible refine F1.mono ?_); rintro e w1 ⟨rfl, rfl⟩)
      | (go_at_call 18; (first | with_reducible refine F2.mono ?_); rintro e w1 ⟨rfl, rfl⟩)
      | (go_at_call 14; (first | with_reducible refine S1.mono ?_); rintro e w1 ⟨rfl, rfl⟩)
      | (go_at_call 19; (first | with_reducible refine S2.mono ?_); rintro e w1 ⟨rfl, rfl⟩)
      | (go_at_call 12; (first | with_reducible refine A1.mono ?_); rintro e w1 ⟨rfl, rfl⟩)
      | (go_at_call 20; (first | with_reducible refine A2.mono ?_); rintro e w1 ⟨rfl, rfl⟩)
      | (go_at_call 11; (first | with_reducible refine G1.mono ?_); rintro e w1 ⟨rfl, rfl⟩)
      | (go_at_call 21; (first | with_reducible refine G2.mono ?_); rintro e w1 ⟨rfl, rfl⟩)
      | fail)
    go_ret
    exact ⟨by simp, rfl⟩
set_option maxRecDepth 100000 in
set_option maxHeartbeats 2000000 in
theorem own_lo0 (m a b p q r : Nat) (k : Bool) (x y : ByteArray) (g1 : ¬ (1 : Int) ≤ (a : Int)) (g5 : k = false) (N1 : Pure 9 #[.int .u8 (a : Int)] (.string x) W) (N2 : Pure 9 #[.int .u8 (b : Int)] (.string y) W) (P1 : Pure 8 #[.string x] (.tuple #[.int .u8 0, .int .i64 5]) W) (S1 : Pure 14 #[.int .u8 (m : Int), .int .u8 (a : Int)] (.int .i64 (p : Int)) W) (S2 : Pure 14 #[.int .u8 (m : Int), .int .u8 (m : Int)] (.int .i64 (q : Int)) W) (S3 : Pure 14 #[.int .u8 (m : Int), .int .u8 (b : Int)] (.int .i64 (r : Int)) W) (F1 : Pure 13 #[.int .u8 (m : Int), .int .u8 (a : Int)] (.bool false) W) (M1 : Pure 10 #[.int .u8 (m : Int)] (.bool k) W) (np : ¬ (p : Int) < 0) (pp : ¬ (0 : Int) < (p : Int)) : Pure 5 #[.int .u8 (m : Int), .int .u8 (a : Int), .int .u8 (b : Int)] (.bool true) W := by
  have hK := works5 W hW.toScoresW
  go_enter Tryd.func5, Tryd.ntmps5
  go_wp2_with (first
    | (go_at_call 7; (first | with_reducible refine hK.mono ?_); rintro e w1 ⟨rfl, rfl⟩)
    | (go_at_call 9; (first | with_reducible refine N1.mono ?_ | with_reducible refine N2.mono ?_); rintro e w1 ⟨rfl, rfl⟩)
    | (go_at_call 8; (first | with_reducible refine P1.mono ?_); rintro e w1 ⟨rfl, rfl⟩)
    | (go_at_call 14; (first | with_reducible refine S1.mono ?_ | with_reducible refine S2.mono ?_ | with_reducible refine S3.mono ?_); rintro e w1 ⟨rfl, rfl⟩)
    | (go_at_call 13; (first | with_reducible refine F1.mono ?_); rintro e w1 ⟨rfl, rfl⟩)
    | (go_at_call 10; (first | with_reducible refine M1.mono ?_); rintro e w1 ⟨rfl, rfl⟩)
    | fail)
  go_ret
  exact ⟨by first | rfl | (simp; done) | (cases k <;> simp_all), rfl⟩
set_option maxRecDepth 100000 in
set_option maxHeartbeats 2000000 in
theorem own_lo1 (m a b p q r : Nat) (k : Bool) (x y : ByteArray) (g1 : ¬ (1 : Int) ≤ (a : Int)) (g5 : k = true) (g6 : ¬ (a : Int) = (m : Int)) (g7 : ¬ (a : Int) = 1) (N1 : Pure 9 #[.int .u8 (a : Int)] (.string x) W) (N2 : Pure 9 #[.int .u8 (b : Int)] (.string y) W) (P1 : Pure 8 #[.string x] (.tuple #[.int .u8 0, .int .i64 5]) W) (S1 : Pure 14 #[.int .u8 (m : Int), .int .u8 (a : Int)] (.int .i64 (p : Int)) W) (S2 : Pure 14 #[.int .u8 (m : Int), .int .u8 (m : Int)] (.int .i64 (q : Int)) W) (S3 : Pure 14 #[.int .u8 (m : Int), .int .u8 (b : Int)] (.int .i64 (r : Int)) W) (F1 : Pure 13 #[.int .u8 (m : Int), .int .u8 (a : Int)] (.bool false) W) (M1 : Pure 10 #[.int .u8 (m : Int)] (.bool k) W) (np : ¬ (p : Int) < 0) (pp : ¬ (0 : Int) < (p : Int)) : Pure 5 #[.int .u8 (m : Int), .int .u8 (a : Int), .int .u8 (b : Int)] (.bool true) W := by
  have hK := works5 W hW.toScoresW
  go_enter Tryd.func5, Tryd.ntmps5
  go_wp2_with (first
    | (go_at_call 7; (first | with_reducible refine hK.mono ?_); rintro e w1 ⟨rfl, rfl⟩)
    | (go_at_call 9; (first | with_reducible refine N1.mono ?_ | with_reducible refine N2.mono ?_); rintro e w1 ⟨rfl, rfl⟩)
    | (go_at_call 8; (first | with_reducible refine P1.mono ?_); rintro e w1 ⟨rfl, rfl⟩)
    | (go_at_call 14; (first | with_reducible refine S1.mono ?_ | with_reducible refine S2.mono ?_ | with_reducible refine S3.mono ?_); rintro e w1 ⟨rfl, rfl⟩)
    | (go_at_call 13; (first | with_reducible refine F1.mono ?_); rintro e w1 ⟨rfl, rfl⟩)
    | (go_at_call 10; (first | with_reducible refine M1.mono ?_); rintro e w1 ⟨rfl, rfl⟩)
    | fail)
  go_ret
  exact ⟨by first | rfl | (simp; done) | (cases k <;> simp_all), rfl⟩
set_option maxRecDepth 100000 in
set_option maxHeartbeats 2000000 in
theorem own_hi0 (m a b p q r : Nat) (k : Bool) (x y : ByteArray) (g1 : (1 : Int) ≤ (a : Int)) (g2 : ¬ (a : Int) ≤ 4) (g5 : k = false) (N1 : Pure 9 #[.int .u8 (a : Int)] (.string x) W) (N2 : Pure 9 #[.int .u8 (b : Int)] (.string y) W) (P1 : Pure 8 #[.string x] (.tuple #[.int .u8 0, .int .i64 5]) W) (S1 : Pure 14 #[.int .u8 (m : Int), .int .u8 (a : Int)] (.int .i64 (p : Int)) W) (S2 : Pure 14 #[.int .u8 (m : Int), .int .u8 (m : Int)] (.int .i64 (q : Int)) W) (S3 : Pure 14 #[.int .u8 (m : Int), .int .u8 (b : Int)] (.int .i64 (r : Int)) W) (F1 : Pure 13 #[.int .u8 (m : Int), .int .u8 (a : Int)] (.bool false) W) (M1 : Pure 10 #[.int .u8 (m : Int)] (.bool k) W) (np : ¬ (p : Int) < 0) (pp : ¬ (0 : Int) < (p : Int)) : Pure 5 #[.int .u8 (m : Int), .int .u8 (a : Int), .int .u8 (b : Int)] (.bool true) W := by
  have hK := works5 W hW.toScoresW
  go_enter Tryd.func5, Tryd.ntmps5
  go_wp2_with (first
    | (go_at_call 7; (first | with_reducible refine hK.mono ?_); rintro e w1 ⟨rfl, rfl⟩)
    | (go_at_call 9; (first | with_reducible refine N1.mono ?_ | with_reducible refine N2.mono ?_); rintro e w1 ⟨rfl, rfl⟩)
    | (go_at_call 8; (first | with_reducible refine P1.mono ?_); rintro e w1 ⟨rfl, rfl⟩)
    | (go_at_call 14; (first | with_reducible refine S1.mono ?_ | with_reducible refine S2.mono ?_ | with_reducible refine S3.mono ?_); rintro e w1 ⟨rfl, rfl⟩)
    | (go_at_call 13; (first | with_reducible refine F1.mono ?_); rintro e w1 ⟨rfl, rfl⟩)
    | (go_at_call 10; (first | with_reducible refine M1.mono ?_); rintro e w1 ⟨rfl, rfl⟩)
    | fail)
  go_ret
  exact ⟨by first | rfl | (simp; done) | (cases k <;> simp_all), rfl⟩
set_option maxRecDepth 100000 in
set_option maxHeartbeats 2000000 in
theorem own_hi1 (m a b p q r : Nat) (k : Bool) (x y : ByteArray) (g1 : (1 : Int) ≤ (a : Int)) (g2 : ¬ (a : Int) ≤ 4) (g5 : k = true) (g6 : ¬ (a : Int) = (m : Int)) (g7 : ¬ (a : Int) = 1) (N1 : Pure 9 #[.int .u8 (a : Int)] (.string x) W) (N2 : Pure 9 #[.int .u8 (b : Int)] (.string y) W) (P1 : Pure 8 #[.string x] (.tuple #[.int .u8 0, .int .i64 5]) W) (S1 : Pure 14 #[.int .u8 (m : Int), .int .u8 (a : Int)] (.int .i64 (p : Int)) W) (S2 : Pure 14 #[.int .u8 (m : Int), .int .u8 (m : Int)] (.int .i64 (q : Int)) W) (S3 : Pure 14 #[.int .u8 (m : Int), .int .u8 (b : Int)] (.int .i64 (r : Int)) W) (F1 : Pure 13 #[.int .u8 (m : Int), .int .u8 (a : Int)] (.bool false) W) (M1 : Pure 10 #[.int .u8 (m : Int)] (.bool k) W) (np : ¬ (p : Int) < 0) (pp : ¬ (0 : Int) < (p : Int)) : Pure 5 #[.int .u8 (m : Int), .int .u8 (a : Int), .int .u8 (b : Int)] (.bool true) W := by
  have hK := works5 W hW.toScoresW
  go_enter Tryd.func5, Tryd.ntmps5
  go_wp2_with (first
    | (go_at_call 7; (first | with_reducible refine hK.mono ?_); rintro e w1 ⟨rfl, rfl⟩)
    | (go_at_call 9; (first | with_reducible refine N1.mono ?_ | with_reducible refine N2.mono ?_); rintro e w1 ⟨rfl, rfl⟩)
    | (go_at_call 8; (first | with_reducible refine P1.mono ?_); rintro e w1 ⟨rfl, rfl⟩)
    | (go_at_call 14; (first | with_reducible refine S1.mono ?_ | with_reducible refine S2.mono ?_ | with_reducible refine S3.mono ?_); rintro e w1 ⟨rfl, rfl⟩)
    | (go_at_call 13; (first | with_reducible refine F1.mono ?_); rintro e w1 ⟨rfl, rfl⟩)
    | (go_at_call 10; (first | with_reducible refine M1.mono ?_); rintro e w1 ⟨rfl, rfl⟩)
    | fail)
  go_ret
  exact ⟨by first | rfl | (simp; done) | (cases k <;> simp_all), rfl⟩
set_option maxRecDepth 100000 in
set_option maxHeartbeats 2000000 in
theorem own_ne0 (m a b p q r : Nat) (k : Bool) (x y : ByteArray) (g1 : (1 : Int) ≤ (a : Int)) (g2 : (a : Int) ≤ 4) (g3 : ¬ (a : Int) = (b : Int)) (g4 : (x.toList == y.toList) = false) (g5 : k = false) (N1 : Pure 9 #[.int .u8 (a : Int)] (.string x) W) (N2 : Pure 9 #[.int .u8 (b : Int)] (.string y) W) (P1 : Pure 8 #[.string x] (.tuple #[.int .u8 (a : Int), .int .i64 0]) W) (S1 : Pure 14 #[.int .u8 (m : Int), .int .u8 (a : Int)] (.int .i64 (p : Int)) W) (S2 : Pure 14 #[.int .u8 (m : Int), .int .u8 (m : Int)] (.int .i64 (q : Int)) W) (S3 : Pure 14 #[.int .u8 (m : Int), .int .u8 (b : Int)] (.int .i64 (r : Int)) W) (F1 : Pure 13 #[.int .u8 (m : Int), .int .u8 (a : Int)] (.bool false) W) (M1 : Pure 10 #[.int .u8 (m : Int)] (.bool k) W) (np : ¬ (p : Int) < 0) (pp : ¬ (0 : Int) < (p : Int)) : Pure 5 #[.int .u8 (m : Int), .int .u8 (a : Int), .int .u8 (b : Int)] (.bool true) W := by
  have hK := works5 W hW.toScoresW
  go_enter Tryd.func5, Tryd.ntmps5
  go_wp2_with (first
    | (go_at_call 7; (first | with_reducible refine hK.mono ?_); rintro e w1 ⟨rfl, rfl⟩)
    | (go_at_call 9; (first | with_reducible refine N1.mono ?_ | with_reducible refine N2.mono ?_); rintro e w1 ⟨rfl, rfl⟩)
    | (go_at_call 8; (first | with_reducible refine P1.mono ?_); rintro e w1 ⟨rfl, rfl⟩)
    | (go_at_call 14; (first | with_reducible refine S1.mono ?_ | with_reducible refine S2.mono ?_ | with_reducible refine S3.mono ?_); rintro e w1 ⟨rfl, rfl⟩)
    | (go_at_call 13; (first | with_reducible refine F1.mono ?_); rintro e w1 ⟨rfl, rfl⟩)
    | (go_at_call 10; (first | with_reducible refine M1.mono ?_); rintro e w1 ⟨rfl, rfl⟩)
    | fail)
  go_ret
  exact ⟨by first | rfl | (simp; done) | (cases k <;> simp_all), rfl⟩
set_option maxRecDepth 100000 in
set_option maxHeartbeats 2000000 in
theorem own_ne1 (m a b p q r : Nat) (k : Bool) (x y : ByteArray) (g1 : (1 : Int) ≤ (a : Int)) (g2 : (a : Int) ≤ 4) (g3 : ¬ (a : Int) = (b : Int)) (g4 : (x.toList == y.toList) = false) (g5 : k = true) (g6 : ¬ (a : Int) = (m : Int)) (g7 : ¬ (a : Int) = 1) (N1 : Pure 9 #[.int .u8 (a : Int)] (.string x) W) (N2 : Pure 9 #[.int .u8 (b : Int)] (.string y) W) (P1 : Pure 8 #[.string x] (.tuple #[.int .u8 (a : Int), .int .i64 0]) W) (S1 : Pure 14 #[.int .u8 (m : Int), .int .u8 (a : Int)] (.int .i64 (p : Int)) W) (S2 : Pure 14 #[.int .u8 (m : Int), .int .u8 (m : Int)] (.int .i64 (q : Int)) W) (S3 : Pure 14 #[.int .u8 (m : Int), .int .u8 (b : Int)] (.int .i64 (r : Int)) W) (F1 : Pure 13 #[.int .u8 (m : Int), .int .u8 (a : Int)] (.bool false) W) (M1 : Pure 10 #[.int .u8 (m : Int)] (.bool k) W) (np : ¬ (p : Int) < 0) (pp : ¬ (0 : Int) < (p : Int)) : Pure 5 #[.int .u8 (m : Int), .int .u8 (a : Int), .int .u8 (b : Int)] (.bool true) W := by
  have hK := works5 W hW.toScoresW
  go_enter Tryd.func5, Tryd.ntmps5
  go_wp2_with (first
    | (go_at_call 7; (first | with_reducible refine hK.mono ?_); rintro e w1 ⟨rfl, rfl⟩)
    | (go_at_call 9; (first | with_reducible refine N1.mono ?_ | with_reducible refine N2.mono ?_); rintro e w1 ⟨rfl, rfl⟩)
    | (go_at_call 8; (first | with_reducible refine P1.mono ?_); rintro e w1 ⟨rfl, rfl⟩)
    | (go_at_call 14; (first | with_reducible refine S1.mono ?_ | with_reducible refine S2.mono ?_ | with_reducible refine S3.mono ?_); rintro e w1 ⟨rfl, rfl⟩)
    | (go_at_call 13; (first | with_reducible refine F1.mono ?_); rintro e w1 ⟨rfl, rfl⟩)
    | (go_at_call 10; (first | with_reducible refine M1.mono ?_); rintro e w1 ⟨rfl, rfl⟩)
    | fail)
  go_ret
  exact ⟨by first | rfl | (simp; done) | (cases k <;> simp_all), rfl⟩
set_option maxRecDepth 100000 in
set_option maxHeartbeats 2000000 in
theorem own_eq0 (m a p q : Nat) (k : Bool) (x : ByteArray) (g1 : (1 : Int) ≤ (a : Int)) (g2 : (a : Int) ≤ 4) (g5 : k = false) (N1 : Pure 9 #[.int .u8 (a : Int)] (.string x) W) (P1 : Pure 8 #[.string x] (.tuple #[.int .u8 (a : Int), .int .i64 0]) W) (S1 : Pure 14 #[.int .u8 (m : Int), .int .u8 (a : Int)] (.int .i64 (p : Int)) W) (S2 : Pure 14 #[.int .u8 (m : Int), .int .u8 (m : Int)] (.int .i64 (q : Int)) W) (F1 : Pure 13 #[.int .u8 (m : Int), .int .u8 (a : Int)] (.bool false) W) (M1 : Pure 10 #[.int .u8 (m : Int)] (.bool k) W) (np : ¬ (p : Int) < 0) (pp : ¬ (0 : Int) < (p : Int)) : Pure 5 #[.int .u8 (m : Int), .int .u8 (a : Int), .int .u8 (a : Int)] (.bool true) W := by
  have hK := works5 W hW.toScoresW
  go_enter Tryd.func5, Tryd.ntmps5
  go_wp2_with (first
    | (go_at_call 7; (first | with_reducible refine hK.mono ?_); rintro e w1 ⟨rfl, rfl⟩)
    | (go_at_call 9; (first | with_reducible refine N1.mono ?_); rintro e w1 ⟨rfl, rfl⟩)
    | (go_at_call 8; (first | with_reducible refine P1.mono ?_); rintro e w1 ⟨rfl, rfl⟩)
    | (go_at_call 14; (first | with_reducible refine S1.mono ?_ | with_reducible refine S2.mono ?_); rintro e w1 ⟨rfl, rfl⟩)
    | (go_at_call 13; (first | with_reducible refine F1.mono ?_); rintro e w1 ⟨rfl, rfl⟩)
    | (go_at_call 10; (first | with_reducible refine M1.mono ?_); rintro e w1 ⟨rfl, rfl⟩)
    | fail)
  go_ret
  exact ⟨by first | rfl | (simp; done) | (cases k <;> simp_all), rfl⟩
set_option maxRecDepth 100000 in
set_option maxHeartbeats 2000000 in
theorem own_eq1 (m a p q : Nat) (k : Bool) (x : ByteArray) (g1 : (1 : Int) ≤ (a : Int)) (g2 : (a : Int) ≤ 4) (g5 : k = true) (g6 : ¬ (a : Int) = (m : Int)) (g7 : ¬ (a : Int) = 1) (N1 : Pure 9 #[.int .u8 (a : Int)] (.string x) W) (P1 : Pure 8 #[.string x] (.tuple #[.int .u8 (a : Int), .int .i64 0]) W) (S1 : Pure 14 #[.int .u8 (m : Int), .int .u8 (a : Int)] (.int .i64 (p : Int)) W) (S2 : Pure 14 #[.int .u8 (m : Int), .int .u8 (m : Int)] (.int .i64 (q : Int)) W) (F1 : Pure 13 #[.int .u8 (m : Int), .int .u8 (a : Int)] (.bool false) W) (M1 : Pure 10 #[.int .u8 (m : Int)] (.bool k) W) (np : ¬ (p : Int) < 0) (pp : ¬ (0 : Int) < (p : Int)) : Pure 5 #[.int .u8 (m : Int), .int .u8 (a : Int), .int .u8 (a : Int)] (.bool true) W := by
  have hK := works5 W hW.toScoresW
  go_enter Tryd.func5, Tryd.ntmps5
  go_wp2_with (first
    | (go_at_call 7; (first | with_reducible refine hK.mono ?_); rintro e w1 ⟨rfl, rfl⟩)
    | (go_at_call 9; (first | with_reducible refine N1.mono ?_); rintro e w1 ⟨rfl, rfl⟩)
    | (go_at_call 8; (first | with_reducible refine P1.mono ?_); rintro e w1 ⟨rfl, rfl⟩)
    | (go_at_call 14; (first | with_reducible refine S1.mono ?_ | with_reducible refine S2.mono ?_); rintro e w1 ⟨rfl, rfl⟩)
    | (go_at_call 13; (first | with_reducible refine F1.mono ?_); rintro e w1 ⟨rfl, rfl⟩)
    | (go_at_call 10; (first | with_reducible refine M1.mono ?_); rintro e w1 ⟨rfl, rfl⟩)
    | fail)
  go_ret
  exact ⟨by first | rfl | (simp; done) | (cases k <;> simp_all), rfl⟩
set_option maxRecDepth 100000 in
set_option maxHeartbeats 2000000 in
theorem own_nefit (m a b p q r : Nat) (k : Bool) (x y : ByteArray) (g1 : (1 : Int) ≤ (a : Int)) (g2 : (a : Int) ≤ 4) (g3 : ¬ (a : Int) = (b : Int)) (g4 : (x.toList == y.toList) = false) (g5 : k = true) (g6 : (q : Int) ≤ (p : Int)) (g7 : ¬ (p : Int) = (r : Int)) (N1 : Pure 9 #[.int .u8 (a : Int)] (.string x) W) (N2 : Pure 9 #[.int .u8 (b : Int)] (.string y) W) (P1 : Pure 8 #[.string x] (.tuple #[.int .u8 (a : Int), .int .i64 0]) W) (S1 : Pure 14 #[.int .u8 (m : Int), .int .u8 (a : Int)] (.int .i64 (p : Int)) W) (S2 : Pure 14 #[.int .u8 (m : Int), .int .u8 (m : Int)] (.int .i64 (q : Int)) W) (S3 : Pure 14 #[.int .u8 (m : Int), .int .u8 (b : Int)] (.int .i64 (r : Int)) W) (F1 : Pure 13 #[.int .u8 (m : Int), .int .u8 (a : Int)] (.bool true) W) (M1 : Pure 10 #[.int .u8 (m : Int)] (.bool k) W) (pp : (0 : Int) < (p : Int)) : Pure 5 #[.int .u8 (m : Int), .int .u8 (a : Int), .int .u8 (b : Int)] (.bool true) W := by
  have hK := works5 W hW.toScoresW
  go_enter Tryd.func5, Tryd.ntmps5
  go_wp2_with (first
    | (go_at_call 7; (first | with_reducible refine hK.mono ?_); rintro e w1 ⟨rfl, rfl⟩)
    | (go_at_call 9; (first | with_reducible refine N1.mono ?_ | with_reducible refine N2.mono ?_); rintro e w1 ⟨rfl, rfl⟩)
    | (go_at_call 8; (first | with_reducible refine P1.mono ?_); rintro e w1 ⟨rfl, rfl⟩)
    | (go_at_call 14; (first | with_reducible refine S1.mono ?_ | with_reducible refine S2.mono ?_ | with_reducible refine S3.mono ?_); rintro e w1 ⟨rfl, rfl⟩)
    | (go_at_call 13; (first | with_reducible refine F1.mono ?_); rintro e w1 ⟨rfl, rfl⟩)
    | (go_at_call 10; (first | with_reducible refine M1.mono ?_); rintro e w1 ⟨rfl, rfl⟩)
    | fail)
  go_ret
  exact ⟨by first | rfl | (simp; done) | (cases k <;> simp_all), rfl⟩
set_option maxRecDepth 100000 in
set_option maxHeartbeats 2000000 in
theorem own_eqfit (m a p q : Nat) (k : Bool) (x : ByteArray) (g1 : (1 : Int) ≤ (a : Int)) (g2 : (a : Int) ≤ 4) (g5 : k = true) (g6 : (q : Int) ≤ (p : Int)) (N1 : Pure 9 #[.int .u8 (a : Int)] (.string x) W) (P1 : Pure 8 #[.string x] (.tuple #[.int .u8 (a : Int), .int .i64 0]) W) (S1 : Pure 14 #[.int .u8 (m : Int), .int .u8 (a : Int)] (.int .i64 (p : Int)) W) (S2 : Pure 14 #[.int .u8 (m : Int), .int .u8 (m : Int)] (.int .i64 (q : Int)) W) (F1 : Pure 13 #[.int .u8 (m : Int), .int .u8 (a : Int)] (.bool true) W) (M1 : Pure 10 #[.int .u8 (m : Int)] (.bool k) W) (pp : (0 : Int) < (p : Int)) : Pure 5 #[.int .u8 (m : Int), .int .u8 (a : Int), .int .u8 (a : Int)] (.bool true) W := by
  have hK := works5 W hW.toScoresW
  go_enter Tryd.func5, Tryd.ntmps5
  go_wp2_with (first
    | (go_at_call 7; (first | with_reducible refine hK.mono ?_); rintro e w1 ⟨rfl, rfl⟩)
    | (go_at_call 9; (first | with_reducible refine N1.mono ?_); rintro e w1 ⟨rfl, rfl⟩)
    | (go_at_call 8; (first | with_reducible refine P1.mono ?_); rintro e w1 ⟨rfl, rfl⟩)
    | (go_at_call 14; (first | with_reducible refine S1.mono ?_ | with_reducible refine S2.mono ?_); rintro e w1 ⟨rfl, rfl⟩)
    | (go_at_call 13; (first | with_reducible refine F1.mono ?_); rintro e w1 ⟨rfl, rfl⟩)
    | (go_at_call 10; (first | with_reducible refine M1.mono ?_); rintro e w1 ⟨rfl, rfl⟩)
    | fail)
  go_ret
  exact ⟨by first | rfl | (simp; done) | (cases k <;> simp_all), rfl⟩
theorem own5_walk (m a b : Nat) (hm : m < 256) (ha : a < 256) (hb : b < 256) : Pure 5 #[.int .u8 (m : Int), .int .u8 (a : Int), .int .u8 (b : Int)] (.bool true) W := by
  have N1 := name_k W hW.toNamesW a ha
  have N2 := name_k W hW.toNamesW b hb
  have P1 := parse_k5 W hW.toNamesW (nameB a)
  have S1 := score_k W hW.toScoresW m a hm ha
  have S2 := score_k W hW.toScoresW m m hm hm
  have S3 := score_k W hW.toScoresW m b hm hb
  have F1 := fits_k W hW.toScoresW m a hm ha
  have M1 := machine_k W m hm
  have hp := parse_name a
  have np : ¬ (score m a : Int) < 0 := by omega
  cases hf : fits m a
  · have pp : ¬ (0 : Int) < (score m a : Int) := by simp [fits] at hf; omega
    rw [hf] at F1
    by_cases h1 : 1 ≤ a
    · by_cases h2 : a ≤ 4
      · rw [show known a = true by simp [known, h1, h2], if_pos rfl] at hp
        rw [hp] at P1
        cases hk : mach m
        · by_cases hab : a = b
          · subst hab
            exact own_eq0 W hW m a _ _ _ _ (by omega) (by omega) hk N1 P1 S1 S2 F1 M1 np pp
          · exact own_ne0 W hW m a b _ _ _ _ _ _ (by omega) (by omega) (by omega) (name_ne a b (by simp [known, h1, h2]) hab) hk N1 N2 P1 S1 S2 S3 F1 M1 np pp
        · have q1 : a ≠ m ∧ a ≠ 1 := by
            simp only [fits, score, hk, if_true, decide_eq_false_iff_not] at hf
            constructor
            · intro e; rw [if_pos e] at hf; omega
            · intro e; rw [if_pos e] at hf; split at hf <;> omega
          by_cases hab : a = b
          · subst hab
            exact own_eq1 W hW m a _ _ _ _ (by omega) (by omega) hk (by omega) (by omega) N1 P1 S1 S2 F1 M1 np pp
          · exact own_ne1 W hW m a b _ _ _ _ _ _ (by omega) (by omega) (by omega) (name_ne a b (by simp [known, h1, h2]) hab) hk (by omega) (by omega) N1 N2 P1 S1 S2 S3 F1 M1 np pp
      · rw [show known a = false by simp [known]; omega, if_neg (by decide)] at hp
        rw [hp] at P1
        cases hk : mach m
        · exact own_hi0 W hW m a b _ _ _ _ _ _ (by omega) (by omega) hk N1 N2 P1 S1 S2 S3 F1 M1 np pp
        · have q1 : a ≠ m ∧ a ≠ 1 := by simp [mach] at hk; omega
          exact own_hi1 W hW m a b _ _ _ _ _ _ (by omega) (by omega) hk (by omega) (by omega) N1 N2 P1 S1 S2 S3 F1 M1 np pp
    · rw [show known a = false by simp [known]; omega, if_neg (by decide)] at hp
      rw [hp] at P1
      cases hk : mach m
      · exact own_lo0 W hW m a b _ _ _ _ _ _ (by omega) hk N1 N2 P1 S1 S2 S3 F1 M1 np pp
      · have q1 : a ≠ m ∧ a ≠ 1 := by simp [mach] at hk; omega
        exact own_lo1 W hW m a b _ _ _ _ _ _ (by omega) hk (by omega) (by omega) N1 N2 P1 S1 S2 S3 F1 M1 np pp
  · have pp : (0 : Int) < (score m a : Int) := by simp [fits] at hf; omega
    rw [hf] at F1
    have hs : 0 < score m a := by omega
    have hk : mach m = true := by
      cases hk : mach m
      · simp [score, hk] at hs
      · rfl
    have hm2 : 2 ≤ m ∧ m ≤ 4 := by simpa [mach] using hk
    have ha2 : 1 ≤ a ∧ a ≤ 4 := by
      simp only [score, hk, if_true] at hs
      repeat' split at hs
      all_goals omega
    have hq : score m m ≤ score m a := by
      have : score m m = 1 := by simp [score, hk]
      omega
    rw [show known a = true by simp [known, ha2], if_pos rfl] at hp
    rw [hp] at P1
    by_cases hab : a = b
    · subst hab
      exact own_eqfit W hW m a _ _ _ _ (by omega) (by omega) hk (by omega) N1 P1 S1 S2 F1 M1 pp
    · have hr : score m a ≠ score m b := by
        simp only [score, hk, if_true] at hs ⊢
        repeat' split at hs
        all_goals repeat' split
        all_goals omega
      exact own_nefit W hW m a b _ _ _ _ _ _ (by omega) (by omega) (by omega) (name_ne a b (by simp [known, ha2]) hab) hk (by omega) (by omega) N1 N2 P1 S1 S2 S3 F1 M1 pp
end
section
variable (W : World) (hW : ScoresW W)
include hW
set_option maxRecDepth 100000 in
set_option maxHeartbeats 2000000 in
theorem either_lo (a b : Nat) (g1 : ¬ (1 : Int) ≤ (a : Int)) (A1 : Pure 12 #[.int .u8 (a : Int), .int .u8 (b : Int)] (.bool false) W) (A2 : Pure 12 #[.int .u8 (b : Int), .int .u8 (a : Int)] (.bool false) W) (G1 : Pure 11 #[.int .u8 (a : Int), .int .u8 (b : Int)] (.bool false) W) (G2 : Pure 11 #[.int .u8 (b : Int), .int .u8 (a : Int)] (.bool false) W) : Pure 6 #[.int .u8 (a : Int), .int .u8 (b : Int)] (.bool true) W := by
  have hK := works5 W hW
  go_enter Tryd.func6, Tryd.ntmps6
  go_wp2_with (first
    | (go_at_call 7; (first | with_reducible refine hK.mono ?_); rintro e w1 ⟨rfl, rfl⟩)
    | (go_at_call 12; (first | with_reducible refine A1.mono ?_ | with_reducible refine A2.mono ?_); rintro e w1 ⟨rfl, rfl⟩)
    | (go_at_call 11; (first | with_reducible refine G1.mono ?_ | with_reducible refine G2.mono ?_); rintro e w1 ⟨rfl, rfl⟩)
    | fail)
  go_ret
  exact ⟨by first | rfl | (simp; done) | (simp; omega), rfl⟩
set_option maxRecDepth 100000 in
set_option maxHeartbeats 2000000 in
theorem either_hi (a b : Nat) (g1 : (1 : Int) ≤ (a : Int)) (g2 : ¬ (a : Int) ≤ 4) (A1 : Pure 12 #[.int .u8 (a : Int), .int .u8 (b : Int)] (.bool false) W) (A2 : Pure 12 #[.int .u8 (b : Int), .int .u8 (a : Int)] (.bool false) W) (G1 : Pure 11 #[.int .u8 (a : Int), .int .u8 (b : Int)] (.bool false) W) (G2 : Pure 11 #[.int .u8 (b : Int), .int .u8 (a : Int)] (.bool false) W) : Pure 6 #[.int .u8 (a : Int), .int .u8 (b : Int)] (.bool true) W := by
  have hK := works5 W hW
  go_enter Tryd.func6, Tryd.ntmps6
  go_wp2_with (first
    | (go_at_call 7; (first | with_reducible refine hK.mono ?_); rintro e w1 ⟨rfl, rfl⟩)
    | (go_at_call 12; (first | with_reducible refine A1.mono ?_ | with_reducible refine A2.mono ?_); rintro e w1 ⟨rfl, rfl⟩)
    | (go_at_call 11; (first | with_reducible refine G1.mono ?_ | with_reducible refine G2.mono ?_); rintro e w1 ⟨rfl, rfl⟩)
    | fail)
  go_ret
  exact ⟨by first | rfl | (simp; done) | (simp; omega), rfl⟩
set_option maxRecDepth 100000 in
set_option maxHeartbeats 2000000 in
theorem either_inlo (a b : Nat) (g1 : (1 : Int) ≤ (a : Int)) (g2 : (a : Int) ≤ 4) (g3 : ¬ (1 : Int) ≤ (b : Int)) (A1 : Pure 12 #[.int .u8 (a : Int), .int .u8 (b : Int)] (.bool false) W) (A2 : Pure 12 #[.int .u8 (b : Int), .int .u8 (a : Int)] (.bool false) W) (G1 : Pure 11 #[.int .u8 (a : Int), .int .u8 (b : Int)] (.bool false) W) (G2 : Pure 11 #[.int .u8 (b : Int), .int .u8 (a : Int)] (.bool false) W) : Pure 6 #[.int .u8 (a : Int), .int .u8 (b : Int)] (.bool true) W := by
  have hK := works5 W hW
  go_enter Tryd.func6, Tryd.ntmps6
  go_wp2_with (first
    | (go_at_call 7; (first | with_reducible refine hK.mono ?_); rintro e w1 ⟨rfl, rfl⟩)
    | (go_at_call 12; (first | with_reducible refine A1.mono ?_ | with_reducible refine A2.mono ?_); rintro e w1 ⟨rfl, rfl⟩)
    | (go_at_call 11; (first | with_reducible refine G1.mono ?_ | with_reducible refine G2.mono ?_); rintro e w1 ⟨rfl, rfl⟩)
    | fail)
  go_ret
  exact ⟨by first | rfl | (simp; done) | (simp; omega), rfl⟩
set_option maxRecDepth 100000 in
set_option maxHeartbeats 2000000 in
theorem either_inhi (a b : Nat) (g1 : (1 : Int) ≤ (a : Int)) (g2 : (a : Int) ≤ 4) (g3 : (1 : Int) ≤ (b : Int)) (g4 : ¬ (b : Int) ≤ 4) (A1 : Pure 12 #[.int .u8 (a : Int), .int .u8 (b : Int)] (.bool false) W) (A2 : Pure 12 #[.int .u8 (b : Int), .int .u8 (a : Int)] (.bool false) W) (G1 : Pure 11 #[.int .u8 (a : Int), .int .u8 (b : Int)] (.bool false) W) (G2 : Pure 11 #[.int .u8 (b : Int), .int .u8 (a : Int)] (.bool false) W) : Pure 6 #[.int .u8 (a : Int), .int .u8 (b : Int)] (.bool true) W := by
  have hK := works5 W hW
  go_enter Tryd.func6, Tryd.ntmps6
  go_wp2_with (first
    | (go_at_call 7; (first | with_reducible refine hK.mono ?_); rintro e w1 ⟨rfl, rfl⟩)
    | (go_at_call 12; (first | with_reducible refine A1.mono ?_ | with_reducible refine A2.mono ?_); rintro e w1 ⟨rfl, rfl⟩)
    | (go_at_call 11; (first | with_reducible refine G1.mono ?_ | with_reducible refine G2.mono ?_); rintro e w1 ⟨rfl, rfl⟩)
    | fail)
  go_ret
  exact ⟨by first | rfl | (simp; done) | (simp; omega), rfl⟩
set_option maxRecDepth 100000 in
set_option maxHeartbeats 2000000 in
theorem either_in (a b : Nat) (p : Bool) (g1 : (1 : Int) ≤ (a : Int)) (g2 : (a : Int) ≤ 4) (g3 : (1 : Int) ≤ (b : Int)) (g4 : (b : Int) ≤ 4) (A1 : Pure 12 #[.int .u8 (a : Int), .int .u8 (b : Int)] (.bool p) W) (A2 : Pure 12 #[.int .u8 (b : Int), .int .u8 (a : Int)] (.bool p) W) (G1 : Pure 11 #[.int .u8 (a : Int), .int .u8 (b : Int)] (.bool (!p)) W) (G2 : Pure 11 #[.int .u8 (b : Int), .int .u8 (a : Int)] (.bool (!p)) W) : Pure 6 #[.int .u8 (a : Int), .int .u8 (b : Int)] (.bool true) W := by
  have hK := works5 W hW
  go_enter Tryd.func6, Tryd.ntmps6
  go_wp2_with (first
    | (go_at_call 7; (first | with_reducible refine hK.mono ?_); rintro e w1 ⟨rfl, rfl⟩)
    | (go_at_call 12; (first | with_reducible refine A1.mono ?_ | with_reducible refine A2.mono ?_); rintro e w1 ⟨rfl, rfl⟩)
    | (go_at_call 11; (first | with_reducible refine G1.mono ?_ | with_reducible refine G2.mono ?_); rintro e w1 ⟨rfl, rfl⟩)
    | fail)
  go_ret
  exact ⟨by first | rfl | (simp; done) | (simp; omega) | (cases p <;> simp_all), rfl⟩
theorem either5_walk (a b : Nat) (ha : a < 256) (hb : b < 256) : Pure 6 #[.int .u8 (a : Int), .int .u8 (b : Int)] (.bool true) W := by
  have A1 := apart_k W a b ha hb
  have A2 := apart_k W b a hb ha
  have G1 := follows_k W a b ha hb
  have G2 := follows_k W b a hb ha
  rw [apart_sym] at A2
  rw [follows_sym] at G2
  by_cases h : (1 ≤ a ∧ a ≤ 4) ∧ 1 ≤ b ∧ b ≤ 4
  · have e : follows a b = !apart a b := by simp [follows, known, h.1.1, h.1.2, h.2.1, h.2.2]
    rw [e] at G1 G2
    exact either_in W hW a b _ (by omega) (by omega) (by omega) (by omega) A1 A2 G1 G2
  · have e1 : follows a b = false := by
      cases hf : follows a b
      · rfl
      · simp [follows, known] at hf; omega
    have e2 : apart a b = false := by
      cases hf : apart a b
      · rfl
      · simp [apart, mach] at hf; omega
    rw [e1] at G1 G2
    rw [e2] at A1 A2
    by_cases h1 : 1 ≤ a
    · by_cases h2 : a ≤ 4
      · by_cases h3 : 1 ≤ b
        · exact either_inhi W hW a b (by omega) (by omega) (by omega) (by omega) A1 A2 G1 G2
        · exact either_inlo W hW a b (by omega) (by omega) (by omega) A1 A2 G1 G2
      · exact either_hi W hW a b (by omega) (by omega) A1 A2 G1 G2
    · exact either_lo W hW a b (by omega) A1 A2 G1 G2
end
end Go.Proofs.YtfhihkgaokhjbaaDoor
