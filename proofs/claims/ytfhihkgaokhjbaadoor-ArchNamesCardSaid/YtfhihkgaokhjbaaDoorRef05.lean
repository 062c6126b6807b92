/-
  The walks over the document's answers of layer 5, and the example that each law asks first. Conditions: as each theorem states.
-/
import Derived.Test.YtfhihkgaokhjbaaDoorArch05
namespace Go.Proofs.YtfhihkgaokhjbaaDoor
open Go.RowKit Arch

section
variable (W : World)
theorem machine5 (a : Nat) (ha : a < 256) : Pure 17 #[.int .u8 (a : Int)] (.bool (mach a)) W := by
  have e : mach a = (decide ((2 : Int) ≤ (a : Int)) && decide ((a : Int) ≤ 4)) := by rw [Bool.eq_iff_iff]; simp [mach]; omega
  rw [e]
  by_cases h : (2 : Int) ≤ (a : Int)
  · go_enter Tryd.func17, Tryd.ntmps17
    go_wp2_with fail
    go_ret
    exact ⟨by simp <;> omega, rfl⟩
  · go_enter Tryd.func17, Tryd.ntmps17
    go_wp2_with fail
    go_ret
    exact ⟨by simp <;> omega, rfl⟩
theorem name5 (a : Nat) : Pure 16 #[.int .u8 (a : Int)] (.string (nameB a)) W := by
  by_cases h : a = 1 ∨ a = 2 ∨ a = 3 ∨ a = 4
  · rcases h with rfl | rfl | rfl | rfl
    all_goals
      go_enter Tryd.func16, Tryd.ntmps16
      go_wp2_with fail
      go_ret
      exact ⟨rfl, rfl⟩
  · have e : nameB a = ⟨#[]⟩ := by unfold nameB; rw [if_neg (by omega), if_neg (by omega), if_neg (by omega), if_neg (by omega)]
    rw [e]
    have n1 : ¬ (a : Int) = 1 := by omega
    have n2 : ¬ (a : Int) = 2 := by omega
    have n3 : ¬ (a : Int) = 3 := by omega
    have n4 : ¬ (a : Int) = 4 := by omega
    go_enter Tryd.func16, Tryd.ntmps16
    go_wp2_with fail
    go_ret
    exact ⟨rfl, rfl⟩
theorem score5 (m a : Nat) (hm : m < 256) : Pure 19 #[.int .u8 (m : Int), .int .u8 (a : Int)] (.int .i64 (score m a : Int)) W := by
  have hM := machine5 W m hm
  unfold score
  generalize mach m = x at hM
  cases x
  · go_enter Tryd.func19, Tryd.ntmps19
    go_wp2_with (go_at_call 17; with_reducible refine hM.mono ?_; rintro e w1 ⟨rfl, rfl⟩)
    go_ret
    exact ⟨rfl, rfl⟩
  · rw [if_pos rfl]
    by_cases h1 : a = m
    · subst h1
      rw [if_pos rfl]
      go_enter Tryd.func19, Tryd.ntmps19
      go_wp2_with (go_at_call 17; with_reducible refine hM.mono ?_; rintro e w1 ⟨rfl, rfl⟩)
      go_ret
      exact ⟨rfl, rfl⟩
    · have g1 : ¬ (a : Int) = (m : Int) := by omega
      rw [if_neg h1]
      by_cases h2 : a = 1
      · have g2 : (a : Int) = 1 := by omega
        rw [if_pos h2]
        go_enter Tryd.func19, Tryd.ntmps19
        go_wp2_with (go_at_call 17; with_reducible refine hM.mono ?_; rintro e w1 ⟨rfl, rfl⟩)
        go_ret
        exact ⟨rfl, rfl⟩
      · have g2 : ¬ (a : Int) = 1 := by omega
        rw [if_neg h2]
        by_cases h3 : m = 2
        · subst h3
          have hM2 : Pure 17 #[.int .u8 2] (.bool true) W := hM
          have g1 : ¬ (a : Int) = 2 := by omega
          by_cases h4 : a = 3
          · have g4 : (a : Int) = 3 := by omega
            rw [if_pos ⟨rfl, h4⟩]
            go_enter Tryd.func19, Tryd.ntmps19
            go_wp2_with (go_at_call 17; with_reducible refine hM2.mono ?_; rintro e w1 ⟨rfl, rfl⟩)
            go_ret
            exact ⟨rfl, rfl⟩
          · have g4 : ¬ (a : Int) = 3 := by omega
            rw [if_neg (fun h => h4 h.2)]
            go_enter Tryd.func19, Tryd.ntmps19
            go_wp2_with (go_at_call 17; with_reducible refine hM2.mono ?_; rintro e w1 ⟨rfl, rfl⟩)
            go_ret
            exact ⟨rfl, rfl⟩
        · have g3 : ¬ (m : Int) = 2 := by omega
          rw [if_neg (fun h => h3 h.1)]
          go_enter Tryd.func19, Tryd.ntmps19
          go_wp2_with (go_at_call 17; with_reducible refine hM.mono ?_; rintro e w1 ⟨rfl, rfl⟩)
          go_ret
          exact ⟨rfl, rfl⟩
theorem fits5 (m a : Nat) (hm : m < 256) : Pure 18 #[.int .u8 (m : Int), .int .u8 (a : Int)] (.bool (fits m a)) W := by
  have hS := score5 W m a hm
  go_enter Tryd.func18, Tryd.ntmps18
  go_wp2_with (go_at_call 19; with_reducible refine hS.mono ?_; rintro e w1 ⟨rfl, rfl⟩)
  go_ret
  have e : ((score m a : Int) != 0) = fits m a := by rw [Bool.eq_iff_iff]; simp [fits]; omega
  exact ⟨by rw [← e]; rfl, rfl⟩
theorem apart5 (a b : Nat) (ha : a < 256) (hb : b < 256) : Pure 20 #[.int .u8 (a : Int), .int .u8 (b : Int)] (.bool (apart a b)) W := by
  have hA := machine5 W a ha
  have hB := machine5 W b hb
  by_cases h : a = b
  · subst h
    have e : apart a a = false := by simp [apart]
    rw [e]
    go_enter Tryd.func20, Tryd.ntmps20
    go_wp2_with fail
    go_ret
    exact ⟨rfl, rfl⟩
  · have g : ¬ (a : Int) = (b : Int) := by omega
    have g2 : ((a : Int) != (b : Int)) = true := by simp; omega
    have e : apart a b = (mach a && mach b) := by simp [apart, h]
    rw [e]
    generalize mach a = x at hA
    generalize mach b = y at hB
    cases x
    · go_enter Tryd.func20, Tryd.ntmps20
      go_wp2_with (go_at_call 17; (first | with_reducible refine hA.mono ?_ | with_reducible refine hB.mono ?_); rintro e w1 ⟨rfl, rfl⟩)
      go_ret
      exact ⟨rfl, rfl⟩
    · go_enter Tryd.func20, Tryd.ntmps20
      go_wp2_with (go_at_call 17; (first | with_reducible refine hA.mono ?_ | with_reducible refine hB.mono ?_); rintro e w1 ⟨rfl, rfl⟩)
      go_ret
      exact ⟨rfl, rfl⟩
theorem name_empty (a : Nat) : (nameB a).toList.isEmpty = !known a := by
  by_cases h : a = 1 ∨ a = 2 ∨ a = 3 ∨ a = 4
  · rcases h with rfl | rfl | rfl | rfl <;> simp [ByteArray.toList_eq, nameB, nm1, nm2, nm3, nm4, known]
  · have e : nameB a = ⟨#[]⟩ := by unfold nameB; rw [if_neg (by omega), if_neg (by omega), if_neg (by omega), if_neg (by omega)]
    have k : known a = false := by simp [known]; omega
    rw [e, k]
    simp
theorem follows5 (a b : Nat) : Pure 21 #[.int .u8 (a : Int), .int .u8 (b : Int)] (.bool (follows a b)) W := by
  have hA := name5 W a
  have hB := name5 W b
  have e1 := name_empty a
  have e2 := name_empty b
  generalize nameB a = x at hA e1
  generalize nameB b = y at hB e2
  cases h1 : known a
  · have e : follows a b = false := by simp [follows, h1]
    rw [h1] at e1
    rw [e]
    go_enter Tryd.func21, Tryd.ntmps21
    go_wp2_with (go_at_call 16; (first | with_reducible refine hA.mono ?_ | with_reducible refine hB.mono ?_); rintro e w1 ⟨rfl, rfl⟩)
    go_ret
    exact ⟨rfl, rfl⟩
  · rw [h1] at e1
    cases h2 : known b
    · have e : follows a b = false := by simp [follows, h2]
      rw [h2] at e2
      rw [e]
      go_enter Tryd.func21, Tryd.ntmps21
      go_wp2_with (go_at_call 16; (first | with_reducible refine hA.mono ?_ | with_reducible refine hB.mono ?_); rintro e w1 ⟨rfl, rfl⟩)
      go_ret
      exact ⟨rfl, rfl⟩
    · rw [h2] at e2
      have k1 : 1 ≤ a ∧ a ≤ 4 := by simpa [known] using h1
      have k2 : 1 ≤ b ∧ b ≤ 4 := by simpa [known] using h2
      have e : follows a b = decide (a = b ∨ a = 1 ∨ b = 1) := by
        rw [Bool.eq_iff_iff]
        simp [follows, h1, h2, apart, mach]
        omega
      rw [e]
      clear e
      by_cases g1 : a = b
      · subst g1
        go_enter Tryd.func21, Tryd.ntmps21
        go_wp2_with (go_at_call 16; (first | with_reducible refine hA.mono ?_ | with_reducible refine hB.mono ?_); rintro e w1 ⟨rfl, rfl⟩)
        go_ret
        exact ⟨by simp, rfl⟩
      · by_cases g2 : a = 1
        · subst g2
          have hA1 : Pure 16 #[.int .u8 1] (.string x) W := hA
          have f3 : ((1 : Int) == (b : Int)) = false := by simp; omega
          rw [show decide (1 = b ∨ 1 = 1 ∨ b = 1) = true by simp]
          go_enter Tryd.func21, Tryd.ntmps21
          go_wp2_with (go_at_call 16; (first | with_reducible refine hA1.mono ?_ | with_reducible refine hB.mono ?_); rintro e w1 ⟨rfl, rfl⟩)
          go_ret
          exact ⟨rfl, rfl⟩
        · have f2 : ((a : Int) == 1) = false := by simp; omega
          have f3 : ((a : Int) == (b : Int)) = false := by simp; omega
          rw [show decide (a = b ∨ a = 1 ∨ b = 1) = ((b : Int) == 1) by rw [Bool.eq_iff_iff]; simp; omega]
          go_enter Tryd.func21, Tryd.ntmps21
          go_wp2_with (go_at_call 16; (first | with_reducible refine hA.mono ?_ | with_reducible refine hB.mono ?_); rintro e w1 ⟨rfl, rfl⟩)
          go_ret
          exact ⟨rfl, rfl⟩
theorem parse5 (s : ByteArray) : Pure 15 #[.string s] (.tuple #[.int .u8 ((parse s).1 : Int), .int .i64 ((parse s).2 : Int)]) W := by
  have K1 : Pure 16 #[.int .u8 1] (.string nm1) W := name5 W 1
  have K2 : Pure 16 #[.int .u8 2] (.string nm2) W := name5 W 2
  have K3 : Pure 16 #[.int .u8 3] (.string nm3) W := name5 W 3
  have K4 : Pure 16 #[.int .u8 4] (.string nm4) W := name5 W 4
  have step : ∀ (x : Nat × Nat), ((nm1.toList == s.toList) = true ∧ x = (1, 0)) ∨ ((nm1.toList == s.toList) = false ∧ (nm2.toList == s.toList) = true ∧ x = (2, 0)) ∨ ((nm1.toList == s.toList) = false ∧ (nm2.toList == s.toList) = false ∧ (nm3.toList == s.toList) = true ∧ x = (3, 0)) ∨ ((nm1.toList == s.toList) = false ∧ (nm2.toList == s.toList) = false ∧ (nm3.toList == s.toList) = false ∧ (nm4.toList == s.toList) = true ∧ x = (4, 0)) ∨ ((nm1.toList == s.toList) = false ∧ (nm2.toList == s.toList) = false ∧ (nm3.toList == s.toList) = false ∧ (nm4.toList == s.toList) = false ∧ x = (0, 5)) → Pure 15 #[.string s] (.tuple #[.int .u8 (x.1 : Int), .int .i64 (x.2 : Int)]) W := by
    intro x hx
    rcases hx with ⟨h1, rfl⟩ | ⟨h1, h2, rfl⟩ | ⟨h1, h2, h3, rfl⟩ | ⟨h1, h2, h3, h4, rfl⟩ | ⟨h1, h2, h3, h4, rfl⟩
    · go_enter Tryd.func15, Tryd.ntmps15
      go_wp2_with fail
      refine wp_loop_rounds 6 ?_
      rw [rounds_succ]
      go_wp2_with (go_at_call 16; (first | with_reducible refine K1.mono ?_ | with_reducible refine K2.mono ?_ | with_reducible refine K3.mono ?_ | with_reducible refine K4.mono ?_); rintro e w1 ⟨rfl, rfl⟩)
      go_ret2
      exact ⟨rfl, rfl⟩
    · go_enter Tryd.func15, Tryd.ntmps15
      go_wp2_with fail
      refine wp_loop_rounds 6 ?_
      rw [rounds_succ]
      go_wp2_with (go_at_call 16; (first | with_reducible refine K1.mono ?_ | with_reducible refine K2.mono ?_ | with_reducible refine K3.mono ?_ | with_reducible refine K4.mono ?_); rintro e w1 ⟨rfl, rfl⟩)
      rw [rounds_succ]
      go_wp2_with (go_at_call 16; (first | with_reducible refine K1.mono ?_ | with_reducible refine K2.mono ?_ | with_reducible refine K3.mono ?_ | with_reducible refine K4.mono ?_); rintro e w1 ⟨rfl, rfl⟩)
      go_ret2
      exact ⟨rfl, rfl⟩
    · go_enter Tryd.func15, Tryd.ntmps15
      go_wp2_with fail
      refine wp_loop_rounds 6 ?_
      rw [rounds_succ]
      go_wp2_with (go_at_call 16; (first | with_reducible refine K1.mono ?_ | with_reducible refine K2.mono ?_ | with_reducible refine K3.mono ?_ | with_reducible refine K4.mono ?_); rintro e w1 ⟨rfl, rfl⟩)
      rw [rounds_succ]
      go_wp2_with (go_at_call 16; (first | with_reducible refine K1.mono ?_ | with_reducible refine K2.mono ?_ | with_reducible refine K3.mono ?_ | with_reducible refine K4.mono ?_); rintro e w1 ⟨rfl, rfl⟩)
      rw [rounds_succ]
      go_wp2_with (go_at_call 16; (first | with_reducible refine K1.mono ?_ | with_reducible refine K2.mono ?_ | with_reducible refine K3.mono ?_ | with_reducible refine K4.mono ?_); rintro e w1 ⟨rfl, rfl⟩)
      go_ret2
      exact ⟨rfl, rfl⟩
    · go_enter Tryd.func15, Tryd.ntmps15
      go_wp2_with fail
      refine wp_loop_rounds 6 ?_
      rw [rounds_succ]
      go_wp2_with (go_at_call 16; (first | with_reducible refine K1.mono ?_ | with_reducible refine K2.mono ?_ | with_reducible refine K3.mono ?_ | with_reducible refine K4.mono ?_); rintro e w1 ⟨rfl, rfl⟩)
      rw [rounds_succ]
      go_wp2_with (go_at_call 16; (first | with_reducible refine K1.mono ?_ | with_reducible refine K2.mono ?_ | with_reducible refine K3.mono ?_ | with_reducible refine K4.mono ?_); rintro e w1 ⟨rfl, rfl⟩)
      rw [rounds_succ]
      go_wp2_with (go_at_call 16; (first | with_reducible refine K1.mono ?_ | with_reducible refine K2.mono ?_ | with_reducible refine K3.mono ?_ | with_reducible refine K4.mono ?_); rintro e w1 ⟨rfl, rfl⟩)
      rw [rounds_succ]
      go_wp2_with (go_at_call 16; (first | with_reducible refine K1.mono ?_ | with_reducible refine K2.mono ?_ | with_reducible refine K3.mono ?_ | with_reducible refine K4.mono ?_); rintro e w1 ⟨rfl, rfl⟩)
      go_ret2
      exact ⟨rfl, rfl⟩
    · go_enter Tryd.func15, Tryd.ntmps15
      go_wp2_with fail
      refine wp_loop_rounds 6 ?_
      rw [rounds_succ]
      go_wp2_with (go_at_call 16; (first | with_reducible refine K1.mono ?_ | with_reducible refine K2.mono ?_ | with_reducible refine K3.mono ?_ | with_reducible refine K4.mono ?_); rintro e w1 ⟨rfl, rfl⟩)
      rw [rounds_succ]
      go_wp2_with (go_at_call 16; (first | with_reducible refine K1.mono ?_ | with_reducible refine K2.mono ?_ | with_reducible refine K3.mono ?_ | with_reducible refine K4.mono ?_); rintro e w1 ⟨rfl, rfl⟩)
      rw [rounds_succ]
      go_wp2_with (go_at_call 16; (first | with_reducible refine K1.mono ?_ | with_reducible refine K2.mono ?_ | with_reducible refine K3.mono ?_ | with_reducible refine K4.mono ?_); rintro e w1 ⟨rfl, rfl⟩)
      rw [rounds_succ]
      go_wp2_with (go_at_call 16; (first | with_reducible refine K1.mono ?_ | with_reducible refine K2.mono ?_ | with_reducible refine K3.mono ?_ | with_reducible refine K4.mono ?_); rintro e w1 ⟨rfl, rfl⟩)
      rw [rounds_succ]
      go_wp2_with (go_at_call 16; (first | with_reducible refine K1.mono ?_ | with_reducible refine K2.mono ?_ | with_reducible refine K3.mono ?_ | with_reducible refine K4.mono ?_); rintro e w1 ⟨rfl, rfl⟩)
      go_ret2
      exact ⟨rfl, rfl⟩
  refine step _ ?_
  unfold parse
  cases h1 : (nm1.toList == s.toList) <;> cases h2 : (nm2.toList == s.toList) <;> cases h3 : (nm3.toList == s.toList) <;> cases h4 : (nm4.toList == s.toList) <;> simp
theorem works5 (hW : ScoresW W) : Pure 7 #[] (.bool true) W := by
  have S1 : Pure 14 #[.int .u8 2, .int .u8 3] (.int .i64 3) W := score_k W hW 2 3 (by decide) (by decide)
  have S2 : Pure 14 #[.int .u8 3, .int .u8 2] (.int .i64 0) W := score_k W hW 3 2 (by decide) (by decide)
  have S3 : Pure 14 #[.int .u8 4, .int .u8 1] (.int .i64 2) W := score_k W hW 4 1 (by decide) (by decide)
  have P1 : Pure 12 #[.int .u8 2, .int .u8 3] (.bool true) W := apart_k W 2 3 (by decide) (by decide)
  have F1 : Pure 11 #[.int .u8 1, .int .u8 3] (.bool true) W := follows_k W 1 3 (by decide) (by decide)
  go_enter Tryd.func7, Tryd.ntmps7
  go_wp2_with (first
    | (go_at_call 14; (first | with_reducible refine S1.mono ?_ | with_reducible refine S2.mono ?_ | with_reducible refine S3.mono ?_); rintro e w1 ⟨rfl, rfl⟩)
    | (go_at_call 12; with_reducible refine P1.mono ?_; rintro e w1 ⟨rfl, rfl⟩)
    | (go_at_call 11; with_reducible refine F1.mono ?_; rintro e w1 ⟨rfl, rfl⟩))
  go_ret
  exact ⟨rfl, rfl⟩
end
end Go.Proofs.YtfhihkgaokhjbaaDoor
