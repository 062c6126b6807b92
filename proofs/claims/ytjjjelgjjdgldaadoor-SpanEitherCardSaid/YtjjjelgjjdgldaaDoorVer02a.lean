/-
  The walks over the program's own text of layer 2: the Kind of a byte, a run's length, cmp.Compare, the zeros cut off. Conditions: as each theorem states.
-/
import Derived.Test.YtjjjelgjjdgldaaDoorRef02b
import Derived.Test.YtjjjelgjjdgldaaDoorMathFst
import Derived.Handy
import Derived.Lib.Hide
namespace Go.Proofs.YtjjjelgjjdgldaaDoor
open Go.RowKit Ver

theorem kindOf_walk (b : UInt8) (w : World) :
    Calls Tryd.prog 44 #[.int .u8 (b.toNat : Int)] w fun e w' => e = .returned (.int .u8 (kindB b : Int)) ∧ w = w' := by
  have hb : b.toNat < 256 := UInt8.toNat_lt b
  have hk : kindB b = kindB b := rfl
  unfold kindB at hk
  by_cases c1 : b.toNat = 126
  · have h1 : ((b.toNat : Int) == 126) = true := by simp; omega
    have fin := Lib.hid (show (kindB b : Int) = 1 by unfold kindB; rw [if_pos c1]; rfl)
    clear hk c1
    go_enter Tryd.func44, Tryd.ntmps44
    go_wp2
    go_ret
    exact ⟨by rw [fin.out]; rfl, rfl⟩
  · have h1 : ((b.toNat : Int) == 126) = false := by simp; omega
    by_cases c2 : b.toNat = 94
    · have h2 : ((b.toNat : Int) == 94) = true := by simp; omega
      have fin := Lib.hid (show (kindB b : Int) = 3 by unfold kindB; rw [if_neg c1, if_pos c2]; rfl)
      clear hk c1 c2
      go_enter Tryd.func44, Tryd.ntmps44
      go_wp2
      go_ret
      exact ⟨by rw [fin.out]; rfl, rfl⟩
    · have h2 : ((b.toNat : Int) == 94) = false := by simp; omega
      by_cases c3 : (97 ≤ b.toNat ∧ b.toNat ≤ 122) ∨ (65 ≤ b.toNat ∧ b.toNat ≤ 90)
      · have fin := Lib.hid (show (kindB b : Int) = 4 by unfold kindB; rw [if_neg c1, if_neg c2, if_pos c3]; rfl)
        clear hk c1 c2
        rcases c3 with ⟨a1, a2⟩ | ⟨a1, a2⟩
        · go_enter Tryd.func44, Tryd.ntmps44
          go_wp2
          go_ret
          exact ⟨by rw [fin.out]; rfl, rfl⟩
        · go_enter Tryd.func44, Tryd.ntmps44
          go_wp2
          go_ret
          exact ⟨by rw [fin.out]; rfl, rfl⟩
      · by_cases c4 : 48 ≤ b.toNat ∧ b.toNat ≤ 57
        · have fin := Lib.hid (show (kindB b : Int) = 5 by unfold kindB; rw [if_neg c1, if_neg c2, if_neg c3, if_pos c4]; rfl)
          obtain ⟨a1, a2⟩ := c4
          clear hk c1 c2 c3
          go_enter Tryd.func44, Tryd.ntmps44
          go_wp2
          go_ret
          exact ⟨by rw [fin.out]; rfl, rfl⟩
        · have fin := Lib.hid (show (kindB b : Int) = 0 by unfold kindB; rw [if_neg c1, if_neg c2, if_neg c3, if_neg c4]; rfl)
          clear hk
          have hc : b.toNat < 48 ∨ (57 < b.toNat ∧ b.toNat < 65) ∨ (90 < b.toNat ∧ b.toNat < 97) ∨ 122 < b.toNat := by omega
          clear c1 c2 c3 c4
          rcases hc with hc | ⟨hc, hd⟩ | ⟨hc, hd⟩ | hc
          all_goals
            go_enter Tryd.func44, Tryd.ntmps44
            go_wp2
            go_ret
            exact ⟨by rw [fin.out]; rfl, rfl⟩


set_option maxRecDepth 100000 in
theorem run_walk (s : ByteArray) (kd : Nat) (w : World) (hs : s.size ≤ 1000000) :
    Calls Tryd.prog 43 #[.string s, .int .u8 (kd : Int)] w fun e w' => e = .returned (.int .i64 ((run kd s.data.toList 0).length : Int)) ∧ w = w' := by
  have hl := run_len kd s.data.toList 0 (Nat.zero_le _)
  have hsl : s.data.toList.length = s.size := rfl
  rw [hsl] at hl
  have hat : ∀ m (hm : m < s.size) (c : UInt8), m < (run kd s.data.toList 0).length → c = s[m] → kindB c = kd := fun m hm c h1 h2 => run_at h1 (by rw [Nat.zero_add]; exact char_at hm h2)
  have hend : ∀ (hm : (run kd s.data.toList 0).length < s.size) (c : UInt8), c = s[(run kd s.data.toList 0).length] → kindB c ≠ kd := fun hm c h2 => run_end (by rw [Nat.zero_add]; exact char_at hm h2)
  clear hsl
  generalize (run kd s.data.toList 0).length = T at *
  have HA := Lib.hid hat
  have HE := Lib.hid hend
  clear hat hend
  have hl' : T ≤ s.size := by omega
  clear hl
  go_enter Tryd.func43, Tryd.ntmps43
  go_wp2
  go_loop [8] (fun v => ∃ m : Nat, v = .int .i64 (m : Int) ∧ m ≤ T) (fun v => s.size - (intOf v).toNat)
  case atStart => exact ⟨0, rfl, Nat.zero_le _⟩
  case round =>
    obtain ⟨m, rfl, hmT⟩ := hrel
    by_cases hms : m < s.size
    · obtain ⟨c, hc⟩ : ∃ c, c = s[m] := ⟨_, rfl⟩
      by_cases hmR : m < T
      · have hkc := HA.out m hms c hmR hc
        have hc' : s[m] = c := hc.symm
        clear hc
        go_wp2_with (go_at_call 44; refine (kindOf_walk c _).mono ?_; rintro e w' ⟨rfl, rfl⟩)
        go_round
        case rel => exact ⟨m + 1, by go_num, by omega⟩
        case measure => simp [intOf]; omega
      · have hmT' : m = T := by omega
        subst hmT'
        have hkc := HE.out hms c hc
        have hc' : s[m] = c := hc.symm
        clear hc
        have hkb : ((kindB c : Int) != (kd : Int)) = true := by simp; omega
        go_wp2_with (go_at_call 44; refine (kindOf_walk c _).mono ?_; rintro e w' ⟨rfl, rfl⟩)
        go_ret
        exact ⟨rfl, rfl⟩
    · have hmT' : m = T := by omega
      subst hmT'
      have hms' : m = s.size := by omega
      go_wp2
      go_ret
      exact ⟨rfl, rfl⟩

/-- -1, 0, 1. -/
def sgn (a b : Bool) : Int := if a = true then -1 else if b = true then 1 else 0

theorem nan_u8 (x : Nat) (w : World) : Calls Tryd.prog 53 #[.int .u8 (x : Int)] w fun e w' => e = .returned (.bool false) ∧ w = w' := by
  go_enter Tryd.func53, Tryd.ntmps53
  go_wp2
  go_ret
  exact ⟨rfl, rfl⟩
theorem cmp_u8 (x y : Nat) (w : World) : Calls Tryd.prog 46 #[.int .u8 (x : Int), .int .u8 (y : Int)] w fun e w' => e = .returned (.int .i64 (sgn (decide (x < y)) (decide (y < x)))) ∧ w = w' := by
  go_enter Tryd.func46, Tryd.ntmps46
  go_wp2_with (go_at_call 53; refine (nan_u8 _ _).mono ?_; rintro e w' ⟨rfl, rfl⟩)
  all_goals go_ret
  all_goals refine ⟨?_, rfl⟩
  all_goals
    simp only [sgn, decide_eq_true_eq]
    show Ending.returned (Value.int .i64 _) = _
    congr 2
    split <;> first | omega | (split <;> omega)

theorem nan_i64 (x : Nat) (w : World) : Calls Tryd.prog 35 #[.int .i64 (x : Int)] w fun e w' => e = .returned (.bool false) ∧ w = w' := by
  go_enter Tryd.func35, Tryd.ntmps35
  go_wp2
  go_ret
  exact ⟨rfl, rfl⟩
theorem cmp_i64 (x y : Nat) (w : World) : Calls Tryd.prog 30 #[.int .i64 (x : Int), .int .i64 (y : Int)] w fun e w' => e = .returned (.int .i64 (sgn (decide (x < y)) (decide (y < x)))) ∧ w = w' := by
  go_enter Tryd.func30, Tryd.ntmps30
  go_wp2_with (go_at_call 35; refine (nan_i64 _ _).mono ?_; rintro e w' ⟨rfl, rfl⟩)
  all_goals go_ret
  all_goals refine ⟨?_, rfl⟩
  all_goals
    simp only [sgn, decide_eq_true_eq]
    show Ending.returned (Value.int .i64 _) = _
    congr 2
    split <;> first | omega | (split <;> omega)

theorem nan_str (x : ByteArray) (w : World) : Calls Tryd.prog 54 #[.string x] w fun e w' => e = .returned (.bool false) ∧ w = w' := by
  go_enter Tryd.func54, Tryd.ntmps54
  go_wp2
  go_ret
  exact ⟨rfl, rfl⟩
/-- '>' of two texts. -/
theorem str_gtr (x y : ByteArray) (w : World) : Sem.run Tryd.prog (binOp BinOp.gtr 9 (Value.string x) (Value.string y)) w = .ok (.bool (Op.bytesLess y.toList x.toList)) w := by
  have h : Sem.run Tryd.prog (binOp BinOp.gtr 9 (Value.string x) (Value.string y)) w = .ok (.bool (!(Op.bytesLess x.toList y.toList || x.toList == y.toList))) w := by kernel_rfl
  rw [h]
  congr 2
  cases h1 : Op.bytesLess x.toList y.toList with
  | true =>
    cases h2 : Op.bytesLess y.toList x.toList with
    | false => rfl
    | true => exact absurd (bl_trans _ _ _ h1 h2) (by rw [bl_irrefl]; simp)
  | false =>
    by_cases he : x.toList = y.toList
    · rw [he, bl_irrefl]; simp
    · cases h2 : Op.bytesLess y.toList x.toList with
      | true => simp [he]
      | false => exact absurd (bl_total _ _ h1 h2) he
theorem cmp_str (x y : ByteArray) (w : World) : Calls Tryd.prog 47 #[.string x, .string y] w fun e w' => e = .returned (.int .i64 (sgn (Op.bytesLess x.data.toList y.data.toList) (Op.bytesLess y.data.toList x.data.toList))) ∧ w = w' := by
  rw [← ByteArray.toList_eq, ← ByteArray.toList_eq]
  have hg := str_gtr x y
  go_enter Tryd.func47, Tryd.ntmps47
  go_wp2_with (go_at_call 54; refine (nan_str _ _).mono ?_; rintro e w' ⟨rfl, rfl⟩)
  all_goals go_ret
  all_goals refine ⟨?_, rfl⟩
  all_goals
    show Ending.returned (Value.int .i64 _) = _
    congr 2
    simp_all [sgn]

end Go.Proofs.YtjjjelgjjdgldaaDoor
