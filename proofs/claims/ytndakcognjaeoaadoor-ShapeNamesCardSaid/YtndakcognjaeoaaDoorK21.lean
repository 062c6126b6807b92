/-
  The document's May of layers 3 and 6, of texts of any size. The walks over the document's Count and Depth (layer 9). Conditions: as each theorem states.
-/
import Derived.Test.YtndakcognjaeoaaDoorK09
import Derived.Test.YtndakcognjaeoaaDoorK06
import Derived.Test.YtndakcognjaeoaaDoorK12
import Derived.Test.YtndakcognjaeoaaDoorK04
import Derived.Test.YtndakcognjaeoaaDoorRows
import Derived.Handy
import Derived.Lib.Hide
import Derived.LoopN
import Derived.Deep.QuietTactic
import Derived.Test.YtndakcognjaeoaaDoorK10
namespace Go.Proofs.YtndakcognjaeoaaDoor
open Go.RowKit Ver Evr Span Dep

set_option maxRecDepth 100000 in
set_option maxHeartbeats 140737488355327 in
theorem word_big9 (s : ByteArray) (w : World) (hs : s.size ≤ 140737488355327) :
    Calls Tryd.prog 104 #[.string s] w fun e w' => e = .returned (.bool (wordE s.data.toList)) ∧ w' = w := by
  have hsl : s.data.toList.length = s.size := rfl
  have HSL := Lib.hid hsl
  clear hsl
  go_enter Tryd.func104, Tryd.ntmps104
  go_wp2_with fail
  go_loop [3] (fun v3 => ∃ i : Nat, v3 = .int .i64 (i : Int) ∧ i ≤ s.size ∧ (s.data.toList.take i).all okB = true) (fun v3 => s.size - (intOf v3).toNat)
  case atStart => exact ⟨0, rfl, Nat.zero_le _, rfl⟩
  case round =>
    obtain ⟨i, rfl, hi, ha⟩ := hrel
    have HA := Lib.hid ha
    clear ha
    by_cases hlt : i < s.size
    · obtain ⟨c, hc⟩ : ∃ c, c = s[i] := ⟨_, rfl⟩
      have HCL := Lib.hid (char_at hlt hc)
      have hc' : s[i] = c := hc.symm
      have hc256 : c.toNat < 256 := UInt8.toNat_lt c
      clear hc
      rcases (show (c.toNat < 48 ∧ c.toNat ≠ 46 ∧ c.toNat ≠ 43) ∨ (c.toNat = 46) ∨ (c.toNat = 43) ∨ (48 ≤ c.toNat ∧ c.toNat ≤ 57) ∨ (58 ≤ c.toNat ∧ c.toNat ≤ 64) ∨ (65 ≤ c.toNat ∧ c.toNat ≤ 90) ∨ (91 ≤ c.toNat ∧ c.toNat ≤ 96 ∧ c.toNat ≠ 95 ∧ c.toNat ≠ 94) ∨ (c.toNat = 95) ∨ (c.toNat = 94) ∨ (97 ≤ c.toNat ∧ c.toNat ≤ 122) ∨ (123 ≤ c.toNat ∧ c.toNat ≠ 126) ∨ (c.toNat = 126) by omega) with hcase | hcase | hcase | hcase | hcase | hcase | hcase | hcase | hcase | hcase | hcase | hcase
      · have hc := hcase
        have e46 : ((c.toNat : Int) != 46) = true := by simp; omega
        have e95 : ((c.toNat : Int) != 95) = true := by simp; omega
        have e43 : ((c.toNat : Int) != 43) = true := by simp; omega
        have e126 : ((c.toNat : Int) != 126) = true := by simp; omega
        have e94 : ((c.toNat : Int) != 94) = true := by simp; omega
        have g97 : decide ((97 : Int) ≤ (c.toNat : Int)) = false := by simp; omega
        have g65 : decide ((65 : Int) ≤ (c.toNat : Int)) = false := by simp; omega
        have g48 : decide ((48 : Int) ≤ (c.toNat : Int)) = false := by simp; omega
        have g122 : decide ((c.toNat : Int) ≤ 122) = true := by simp; omega
        have g90 : decide ((c.toNat : Int) ≤ 90) = true := by simp; omega
        have g57 : decide ((c.toNat : Int) ≤ 57) = true := by simp; omega
        have hok : okB c = false := by unfold okB; simp; omega
        obtain ⟨q0, q1, q2⟩ := hcase
        clear hc
        have HN := Lib.hid (word_not HCL.out hok)
        go_wp2_with fail
        all_goals
          go_ret
          exact ⟨by rw [HN.out]; rfl, rfl⟩
      · have hc := hcase
        have e46 : ((c.toNat : Int) != 46) = false := by simp; omega
        have e95 : ((c.toNat : Int) != 95) = true := by simp; omega
        have e43 : ((c.toNat : Int) != 43) = true := by simp; omega
        have e126 : ((c.toNat : Int) != 126) = true := by simp; omega
        have e94 : ((c.toNat : Int) != 94) = true := by simp; omega
        have g97 : decide ((97 : Int) ≤ (c.toNat : Int)) = false := by simp; omega
        have g65 : decide ((65 : Int) ≤ (c.toNat : Int)) = false := by simp; omega
        have g48 : decide ((48 : Int) ≤ (c.toNat : Int)) = false := by simp; omega
        have g122 : decide ((c.toNat : Int) ≤ 122) = true := by simp; omega
        have g90 : decide ((c.toNat : Int) ≤ 90) = true := by simp; omega
        have g57 : decide ((c.toNat : Int) ≤ 57) = true := by simp; omega
        have hok : okB c = true := by unfold okB; simp; omega
        clear hc
        have HT := Lib.hid (take_ok HA.out HCL.out hok)
        go_wp2_with fail
        all_goals
          go_round
          case rel => exact ⟨i + 1, by go_num, by omega, HT.out⟩
          case measure => simp [intOf]; omega
      · have hc := hcase
        have e46 : ((c.toNat : Int) != 46) = true := by simp; omega
        have e95 : ((c.toNat : Int) != 95) = true := by simp; omega
        have e43 : ((c.toNat : Int) != 43) = false := by simp; omega
        have e126 : ((c.toNat : Int) != 126) = true := by simp; omega
        have e94 : ((c.toNat : Int) != 94) = true := by simp; omega
        have g97 : decide ((97 : Int) ≤ (c.toNat : Int)) = false := by simp; omega
        have g65 : decide ((65 : Int) ≤ (c.toNat : Int)) = false := by simp; omega
        have g48 : decide ((48 : Int) ≤ (c.toNat : Int)) = false := by simp; omega
        have g122 : decide ((c.toNat : Int) ≤ 122) = true := by simp; omega
        have g90 : decide ((c.toNat : Int) ≤ 90) = true := by simp; omega
        have g57 : decide ((c.toNat : Int) ≤ 57) = true := by simp; omega
        have hok : okB c = true := by unfold okB; simp; omega
        clear hc
        have HT := Lib.hid (take_ok HA.out HCL.out hok)
        go_wp2_with fail
        all_goals
          go_round
          case rel => exact ⟨i + 1, by go_num, by omega, HT.out⟩
          case measure => simp [intOf]; omega
      · have hc := hcase
        have e46 : ((c.toNat : Int) != 46) = true := by simp; omega
        have e95 : ((c.toNat : Int) != 95) = true := by simp; omega
        have e43 : ((c.toNat : Int) != 43) = true := by simp; omega
        have e126 : ((c.toNat : Int) != 126) = true := by simp; omega
        have e94 : ((c.toNat : Int) != 94) = true := by simp; omega
        have g97 : decide ((97 : Int) ≤ (c.toNat : Int)) = false := by simp; omega
        have g65 : decide ((65 : Int) ≤ (c.toNat : Int)) = false := by simp; omega
        have g48 : decide ((48 : Int) ≤ (c.toNat : Int)) = true := by simp; omega
        have g122 : decide ((c.toNat : Int) ≤ 122) = true := by simp; omega
        have g90 : decide ((c.toNat : Int) ≤ 90) = true := by simp; omega
        have g57 : decide ((c.toNat : Int) ≤ 57) = true := by simp; omega
        have hok : okB c = true := by unfold okB; simp; omega
        obtain ⟨q0, q1⟩ := hcase
        clear hc
        have HT := Lib.hid (take_ok HA.out HCL.out hok)
        go_wp2_with fail
        all_goals
          go_round
          case rel => exact ⟨i + 1, by go_num, by omega, HT.out⟩
          case measure => simp [intOf]; omega
      · have hc := hcase
        have e46 : ((c.toNat : Int) != 46) = true := by simp; omega
        have e95 : ((c.toNat : Int) != 95) = true := by simp; omega
        have e43 : ((c.toNat : Int) != 43) = true := by simp; omega
        have e126 : ((c.toNat : Int) != 126) = true := by simp; omega
        have e94 : ((c.toNat : Int) != 94) = true := by simp; omega
        have g97 : decide ((97 : Int) ≤ (c.toNat : Int)) = false := by simp; omega
        have g65 : decide ((65 : Int) ≤ (c.toNat : Int)) = false := by simp; omega
        have g48 : decide ((48 : Int) ≤ (c.toNat : Int)) = true := by simp; omega
        have g122 : decide ((c.toNat : Int) ≤ 122) = true := by simp; omega
        have g90 : decide ((c.toNat : Int) ≤ 90) = true := by simp; omega
        have g57 : decide ((c.toNat : Int) ≤ 57) = false := by simp; omega
        have hok : okB c = false := by unfold okB; simp; omega
        obtain ⟨q0, q1⟩ := hcase
        clear hc
        have HN := Lib.hid (word_not HCL.out hok)
        go_wp2_with fail
        all_goals
          go_ret
          exact ⟨by rw [HN.out]; rfl, rfl⟩
      · have hc := hcase
        have e46 : ((c.toNat : Int) != 46) = true := by simp; omega
        have e95 : ((c.toNat : Int) != 95) = true := by simp; omega
        have e43 : ((c.toNat : Int) != 43) = true := by simp; omega
        have e126 : ((c.toNat : Int) != 126) = true := by simp; omega
        have e94 : ((c.toNat : Int) != 94) = true := by simp; omega
        have g97 : decide ((97 : Int) ≤ (c.toNat : Int)) = false := by simp; omega
        have g65 : decide ((65 : Int) ≤ (c.toNat : Int)) = true := by simp; omega
        have g48 : decide ((48 : Int) ≤ (c.toNat : Int)) = true := by simp; omega
        have g122 : decide ((c.toNat : Int) ≤ 122) = true := by simp; omega
        have g90 : decide ((c.toNat : Int) ≤ 90) = true := by simp; omega
        have g57 : decide ((c.toNat : Int) ≤ 57) = false := by simp; omega
        have hok : okB c = true := by unfold okB; simp; omega
        obtain ⟨q0, q1⟩ := hcase
        clear hc
        have HT := Lib.hid (take_ok HA.out HCL.out hok)
        go_wp2_with fail
        all_goals
          go_round
          case rel => exact ⟨i + 1, by go_num, by omega, HT.out⟩
          case measure => simp [intOf]; omega
      · have hc := hcase
        have e46 : ((c.toNat : Int) != 46) = true := by simp; omega
        have e95 : ((c.toNat : Int) != 95) = true := by simp; omega
        have e43 : ((c.toNat : Int) != 43) = true := by simp; omega
        have e126 : ((c.toNat : Int) != 126) = true := by simp; omega
        have e94 : ((c.toNat : Int) != 94) = true := by simp; omega
        have g97 : decide ((97 : Int) ≤ (c.toNat : Int)) = false := by simp; omega
        have g65 : decide ((65 : Int) ≤ (c.toNat : Int)) = true := by simp; omega
        have g48 : decide ((48 : Int) ≤ (c.toNat : Int)) = true := by simp; omega
        have g122 : decide ((c.toNat : Int) ≤ 122) = true := by simp; omega
        have g90 : decide ((c.toNat : Int) ≤ 90) = false := by simp; omega
        have g57 : decide ((c.toNat : Int) ≤ 57) = false := by simp; omega
        have hok : okB c = false := by unfold okB; simp; omega
        obtain ⟨q0, q1, q2, q3⟩ := hcase
        clear hc
        have HN := Lib.hid (word_not HCL.out hok)
        go_wp2_with fail
        all_goals
          go_ret
          exact ⟨by rw [HN.out]; rfl, rfl⟩
      · have hc := hcase
        have e46 : ((c.toNat : Int) != 46) = true := by simp; omega
        have e95 : ((c.toNat : Int) != 95) = false := by simp; omega
        have e43 : ((c.toNat : Int) != 43) = true := by simp; omega
        have e126 : ((c.toNat : Int) != 126) = true := by simp; omega
        have e94 : ((c.toNat : Int) != 94) = true := by simp; omega
        have g97 : decide ((97 : Int) ≤ (c.toNat : Int)) = false := by simp; omega
        have g65 : decide ((65 : Int) ≤ (c.toNat : Int)) = true := by simp; omega
        have g48 : decide ((48 : Int) ≤ (c.toNat : Int)) = true := by simp; omega
        have g122 : decide ((c.toNat : Int) ≤ 122) = true := by simp; omega
        have g90 : decide ((c.toNat : Int) ≤ 90) = false := by simp; omega
        have g57 : decide ((c.toNat : Int) ≤ 57) = false := by simp; omega
        have hok : okB c = true := by unfold okB; simp; omega
        clear hc
        have HT := Lib.hid (take_ok HA.out HCL.out hok)
        go_wp2_with fail
        all_goals
          go_round
          case rel => exact ⟨i + 1, by go_num, by omega, HT.out⟩
          case measure => simp [intOf]; omega
      · have hc := hcase
        have e46 : ((c.toNat : Int) != 46) = true := by simp; omega
        have e95 : ((c.toNat : Int) != 95) = true := by simp; omega
        have e43 : ((c.toNat : Int) != 43) = true := by simp; omega
        have e126 : ((c.toNat : Int) != 126) = true := by simp; omega
        have e94 : ((c.toNat : Int) != 94) = false := by simp; omega
        have g97 : decide ((97 : Int) ≤ (c.toNat : Int)) = false := by simp; omega
        have g65 : decide ((65 : Int) ≤ (c.toNat : Int)) = true := by simp; omega
        have g48 : decide ((48 : Int) ≤ (c.toNat : Int)) = true := by simp; omega
        have g122 : decide ((c.toNat : Int) ≤ 122) = true := by simp; omega
        have g90 : decide ((c.toNat : Int) ≤ 90) = false := by simp; omega
        have g57 : decide ((c.toNat : Int) ≤ 57) = false := by simp; omega
        have hok : okB c = true := by unfold okB; simp; omega
        clear hc
        have HT := Lib.hid (take_ok HA.out HCL.out hok)
        go_wp2_with fail
        all_goals
          go_round
          case rel => exact ⟨i + 1, by go_num, by omega, HT.out⟩
          case measure => simp [intOf]; omega
      · have hc := hcase
        have e46 : ((c.toNat : Int) != 46) = true := by simp; omega
        have e95 : ((c.toNat : Int) != 95) = true := by simp; omega
        have e43 : ((c.toNat : Int) != 43) = true := by simp; omega
        have e126 : ((c.toNat : Int) != 126) = true := by simp; omega
        have e94 : ((c.toNat : Int) != 94) = true := by simp; omega
        have g97 : decide ((97 : Int) ≤ (c.toNat : Int)) = true := by simp; omega
        have g65 : decide ((65 : Int) ≤ (c.toNat : Int)) = true := by simp; omega
        have g48 : decide ((48 : Int) ≤ (c.toNat : Int)) = true := by simp; omega
        have g122 : decide ((c.toNat : Int) ≤ 122) = true := by simp; omega
        have g90 : decide ((c.toNat : Int) ≤ 90) = false := by simp; omega
        have g57 : decide ((c.toNat : Int) ≤ 57) = false := by simp; omega
        have hok : okB c = true := by unfold okB; simp; omega
        obtain ⟨q0, q1⟩ := hcase
        clear hc
        have HT := Lib.hid (take_ok HA.out HCL.out hok)
        go_wp2_with fail
        all_goals
          go_round
          case rel => exact ⟨i + 1, by go_num, by omega, HT.out⟩
          case measure => simp [intOf]; omega
      · have hc := hcase
        have e46 : ((c.toNat : Int) != 46) = true := by simp; omega
        have e95 : ((c.toNat : Int) != 95) = true := by simp; omega
        have e43 : ((c.toNat : Int) != 43) = true := by simp; omega
        have e126 : ((c.toNat : Int) != 126) = true := by simp; omega
        have e94 : ((c.toNat : Int) != 94) = true := by simp; omega
        have g97 : decide ((97 : Int) ≤ (c.toNat : Int)) = true := by simp; omega
        have g65 : decide ((65 : Int) ≤ (c.toNat : Int)) = true := by simp; omega
        have g48 : decide ((48 : Int) ≤ (c.toNat : Int)) = true := by simp; omega
        have g122 : decide ((c.toNat : Int) ≤ 122) = false := by simp; omega
        have g90 : decide ((c.toNat : Int) ≤ 90) = false := by simp; omega
        have g57 : decide ((c.toNat : Int) ≤ 57) = false := by simp; omega
        have hok : okB c = false := by unfold okB; simp; omega
        obtain ⟨q0, q1⟩ := hcase
        clear hc
        have HN := Lib.hid (word_not HCL.out hok)
        go_wp2_with fail
        all_goals
          go_ret
          exact ⟨by rw [HN.out]; rfl, rfl⟩
      · have hc := hcase
        have e46 : ((c.toNat : Int) != 46) = true := by simp; omega
        have e95 : ((c.toNat : Int) != 95) = true := by simp; omega
        have e43 : ((c.toNat : Int) != 43) = true := by simp; omega
        have e126 : ((c.toNat : Int) != 126) = false := by simp; omega
        have e94 : ((c.toNat : Int) != 94) = true := by simp; omega
        have g97 : decide ((97 : Int) ≤ (c.toNat : Int)) = true := by simp; omega
        have g65 : decide ((65 : Int) ≤ (c.toNat : Int)) = true := by simp; omega
        have g48 : decide ((48 : Int) ≤ (c.toNat : Int)) = true := by simp; omega
        have g122 : decide ((c.toNat : Int) ≤ 122) = false := by simp; omega
        have g90 : decide ((c.toNat : Int) ≤ 90) = false := by simp; omega
        have g57 : decide ((c.toNat : Int) ≤ 57) = false := by simp; omega
        have hok : okB c = true := by unfold okB; simp; omega
        clear hc
        have HT := Lib.hid (take_ok HA.out HCL.out hok)
        go_wp2_with fail
        all_goals
          go_round
          case rel => exact ⟨i + 1, by go_num, by omega, HT.out⟩
          case measure => simp [intOf]; omega
    · have e : i = s.size := by omega
      have HF := Lib.hid (show wordE s.data.toList = (decide (1 ≤ s.size) && decide (s.size ≤ 64)) by
        unfold wordE
        have h := HA.out
        rw [e, ← HSL.out, List.take_length] at h
        rw [h, HSL.out]
        simp)
      by_cases h1 : 1 ≤ s.size
      · by_cases h2 : s.size ≤ 64
        · have g1 : decide ((1 : Int) ≤ (s.size : Int)) = true := by simp; omega
          have g2 : decide ((s.size : Int) ≤ 64) = true := by simp; omega
          have HG := Lib.hid (show (decide (1 ≤ s.size) && decide (s.size ≤ 64)) = true by simp [h1, h2])
          go_wp2_with fail
          go_ret
          exact ⟨by rw [HF.out, HG.out]; rfl, rfl⟩
        · have g1 : decide ((1 : Int) ≤ (s.size : Int)) = true := by simp; omega
          have g2 : decide ((s.size : Int) ≤ 64) = false := by simp; omega
          have HG := Lib.hid (show (decide (1 ≤ s.size) && decide (s.size ≤ 64)) = false by simp [h2])
          go_wp2_with fail
          go_ret
          exact ⟨by rw [HF.out, HG.out]; rfl, rfl⟩
      · have g1 : decide ((1 : Int) ≤ (s.size : Int)) = false := by simp; omega
        have HG := Lib.hid (show (decide (1 ≤ s.size) && decide (s.size ≤ 64)) = false by simp [h1])
        go_wp2_with fail
        go_ret
        exact ⟨by rw [HF.out, HG.out]; rfl, rfl⟩
set_option maxRecDepth 100000 in
set_option maxHeartbeats 140737488355327 in
theorem may_big9 (n : Int) (v r : ByteArray) (dep : Bool) (w : World) (hv : v.size ≤ 140737488355327) (hr : r.size ≤ 140737488355327) :
    Calls Tryd.prog 91 #[evrV n v r, .bool dep] w fun e w' => e = .returned (.bool (mayE (evrE n v r) dep)) ∧ Kept (fun _ => False) w w' := by
  unfold evrV
  have W1 := fun w => word_big9 v w hv
  have W2 := fun w => word_big9 r w hr
  by_cases h0 : n < 0
  · have HN := Lib.hid (@may_low n v r dep (.inl h0))
    have g0 : decide (n < 0) = true := by simp [h0]
    clear h0
    go_enter Tryd.func91, Tryd.ntmps91
    go_wp2_with fail
    go_ret
    exact ⟨by rw [HN.out]; rfl, (Kept.refl _ _).alloc _⟩
  · by_cases h1 : 2147483647 < n
    · have HN := Lib.hid (@may_low n v r dep (.inr h1))
      have g0 : decide (n < 0) = false := by simp; omega
      have g1 : decide (2147483647 < n) = true := by simp [h1]
      clear h1 h0
      go_enter Tryd.func91, Tryd.ntmps91
      go_wp2_with fail
      go_ret
      exact ⟨by rw [HN.out]; rfl, (Kept.refl _ _).alloc _⟩
    · have g0 : decide (n < 0) = false := by simp; omega
      have g1 : decide (2147483647 < n) = false := by simp; omega
      by_cases hw : wordE v.data.toList = true
      · by_cases hr0 : r = ⟨#[]⟩
        · subst hr0
          have HN := Lib.hid (@may_dep n v dep (by omega) (by omega) hw)
          rw [hw] at W1
          clear h1 h0 hw
          go_enter Tryd.func91, Tryd.ntmps91
          go_wp2_with (first | (go_at_call 104; with_reducible refine (W1 _).mono ?_; rintro e w1 ⟨rfl, rfl⟩) | fail)
          go_ret
          exact ⟨by rw [HN.out]; rfl, (Kept.refl _ _).alloc _⟩
        · have HN := Lib.hid (@may_rel n v r dep (by omega) (by omega) hw hr0)
          obtain ⟨b1, b2⟩ := text_ne hr0
          rw [hw] at W1
          clear h1 h0 hw hr0
          go_enter Tryd.func91, Tryd.ntmps91
          go_wp2_with (first | (go_at_call 104; (first | (with_reducible refine (W1 _).mono ?_) | (with_reducible refine (W2 _).mono ?_)); rintro e w1 ⟨rfl, rfl⟩) | fail)
          go_ret
          exact ⟨by rw [HN.out]; rfl, (Kept.refl _ _).alloc _⟩
      · have hw' : wordE v.data.toList = false := by simpa using hw
        have HN := Lib.hid (@may_ver n v r dep hw')
        rw [hw'] at W1
        clear h1 h0 hw hw'
        go_enter Tryd.func91, Tryd.ntmps91
        go_wp2_with (first | (go_at_call 104; with_reducible refine (W1 _).mono ?_; rintro e w1 ⟨rfl, rfl⟩) | fail)
        go_ret
        exact ⟨by rw [HN.out]; rfl, (Kept.refl _ _).alloc _⟩

theorem may6r_big9 (nm : ByteArray) (o : Nat) (ho : o < 256) (n : Int) (v r : ByteArray) (hv : v.size ≤ 140737488355327) (hr : r.size ≤ 140737488355327) (w : World) : Calls Tryd.prog 71 #[depV nm o n v r] w fun e w' => e = .returned (.bool (mayD (dD nm o n v r))) ∧ Kept (fun _ => False) w w' := by
  have hN : ∀ W, Kept (fun _ => False) w W → Calls Tryd.prog 88 #[.string nm] W fun e w' => e = .returned (.bool (nameD nm.data.toList)) ∧ Kept (fun _ => False) W w' := fun W _ => same_kept (name6_walk nm W)
  have hF : ∀ W, Kept (fun _ => False) w W → Calls Tryd.prog 90 #[.string nm] W fun e w' => e = .returned (.bool (fileD nm.data.toList)) ∧ Kept (fun _ => False) W w' := fun W _ => same_kept (file6_walk nm W)
  have hS : ∀ W, Kept (fun _ => False) w W → Calls Tryd.prog 89 #[.int .u8 (o : Int)] W fun e w' => e = .returned (.bool (mayO o)) ∧ Kept (fun _ => False) W w' := fun W _ => may4 o ho W
  have hE : ∀ W, Kept (fun _ => False) w W → Calls Tryd.prog 91 #[.agg #[.int .i64 n, .string v, .string r], .bool true] W fun e w' => e = .returned (.bool (mayE (evrE n v r) true)) ∧ Kept (fun _ => False) W w' := fun W _ => may_big9 n v r true W hv hr
  cases hx : nameD nm.data.toList with
  | false =>
    rw [hx] at hN
    rw [may_name hx]
    exact may6r_A nm o n v r w hN
  | true =>
    rw [hx] at hN
    cases hy : mayO o with
    | false =>
      rw [hy] at hS
      rw [may_op0 hy]
      exact may6r_B nm o n v r w hN hS
    | true =>
      rw [hy] at hS
      by_cases h0 : o = 0
      · subst h0
        rw [may_none hx]
        rcases noE_cases n v r with ⟨rfl, rfl, rfl, h⟩ | ⟨h, h1 | ⟨rfl, h1⟩ | ⟨rfl, rfl, h1⟩⟩
        · rw [h]; exact may6r_C0 nm w hN hS
        · rw [h]; exact may6r_C1 nm n v r w hN hS (by simpa using h1)
        · rw [h]; exact may6r_C2 nm v r w hN hS h1
        · rw [h]; exact may6r_C3 nm r w hN hS h1
      · rw [may_some hx hy h0]
        cases hz : fileD nm.data.toList with
        | true =>
          rw [hz] at hF
          exact may6r_D nm o n v r w (by simp; exact h0) hN hS hF
        | false =>
          rw [hz] at hF
          exact may6r_E nm o n v r w (by simp; exact h0) hN hS _ hF hE

def MayR9 (w0 : World) : Prop := ∀ (d : Dep.D) (w : World), d.op < 256 → d.name.length ≤ 140737488355327 → d.evr.ver.length ≤ 140737488355327 → d.evr.rel.length ≤ 140737488355327 → Kept (fun _ => False) w0 w →
  Calls Tryd.prog 71 #[.agg #[.string ⟨d.name.toArray⟩, .int .u8 (d.op : Int), .int .i64 d.evr.epoch, .string ⟨d.evr.ver.toArray⟩, .string ⟨d.evr.rel.toArray⟩]] w fun e w' => e = .returned (.bool (Dep.mayD d)) ∧ Kept (fun _ => False) w w'
theorem mayR9_of (w0 : World) : MayR9 w0 := by
  intro d w ho _ hv hr _
  obtain ⟨n, o, ⟨ep, v, r⟩⟩ := d
  exact may6r_big9 ⟨n.toArray⟩ o ho ep ⟨v.toArray⟩ ⟨r.toArray⟩ hv hr w
end Go.Proofs.YtndakcognjaeoaaDoor

namespace Go.Proofs.YtndakcognjaeoaaDoor
open Go.RowKit Rich

set_option maxRecDepth 100000 in
set_option maxHeartbeats 2000000 in
theorem countR9_walk : ∀ (x : R) (v : Value) (w : World), RichS w x v → count x ≤ 40000 →
    Calls Tryd.prog 26 #[v] w fun e w' => e = .returned (.int .i64 (count x : Int)) ∧ Kept (fun _ => False) w w' := by
  refine R.ind fun k d l ih v w hr hc => ?_
  rw [RichS] at hr
  obtain ⟨ao, cp, rfl, hk, ho, hA⟩ := hr
  rw [count] at hc
  have hll := counts_len l
  have HI := Lib.hid ih
  have HA := Lib.hid hA
  have HC := Lib.hid hc
  have HCF := Lib.hid (show (count (.mk k d l) : Int) = ((1 + counts l : Nat) : Int) by rw [count])
  have HB := Lib.hid (Box.made w 29 (richA k d (.slice ao l.length cp)))
  clear ih hA hc
  have hlI : l.length ≤ 40000 := by have := HC.out; omega
  go_enter Tryd.func26, Tryd.ntmps26
  go_wp2_with fail
  go_loopw [3, 4] (fun v3 v4 wr => ∃ (i c : Nat), v3 = .int .i64 (c : Int) ∧ v4 = .int .i64 (i : Int) ∧ i ≤ l.length ∧ c ≤ 40000 ∧ Hid (c = 1 + counts (l.take i)) ∧ Hid (Box wr w.heap.size 29 (richA k d (.slice ao l.length cp))) ∧ Hid (Kept (fun _ => False) w wr)) (fun _ v4 _ => l.length - (intOf v4).toNat)
  case atStart => exact ⟨0, 1, rfl, rfl, Nat.zero_le _, by omega, Lib.hid (by rw [List.take_zero, counts]), HB, Lib.hid ((Kept.refl _ _).alloc _)⟩
  case round =>
    obtain ⟨i, c, rfl, rfl, hi, hc4, HCi, HBr, HK⟩ := hrel
    rename World => wr
    have b6 : wr.cell? ⟨w.heap.size, 6, none⟩ = some (.slice ao l.length cp) := HBr.out.cell 6
    by_cases hlt : i < l.length
    · obtain ⟨x, hx⟩ : ∃ x, l[i]? = some x := ⟨_, List.getElem?_eq_getElem hlt⟩
      obtain ⟨b, off, ao', cp', rfl, hb, hrx, d0, d1, d2, d3, d4, d5, d6⟩ := (ArgS.kept HK.out ao 0 l HA.out).part hx
      have hct := counts_take hx
      have hcl := counts_take_le l (i + 1)
      have hcp := count_pos x
      have hcx : count x ≤ 40000 := by have := HC.out; omega
      have PC := HI.out x (List.mem_of_getElem? hx) _ wr hrx hcx
      have HN := Lib.hid (show c + count x = 1 + counts (l.take (i + 1)) by rw [hct, HCi.out]; omega)
      have hcn : c + count x ≤ 40000 := by have := HN.out; have := HC.out; omega
      have hi0 : (0 : Int) ≤ (i : Int) := by omega
      have hiI : (i : Int) < (l.length : Int) := by omega
      generalize count x = cx at *
      clear hx hrx hct hcl hcp
      go_wp2_with (first
        | (go_at_call 26; refine PC.mono ?_; rintro e w5 ⟨rfl, hk5⟩; have HK := Lib.hid (Kept.trans HK.out hk5 (fun _ _ h => h)); have HBr := Lib.hid (hk5.box HBr.out (fun h => h)); clear hk5)
        | fail)
      go_roundw
      case rel => exact ⟨i + 1, c + cx, by go_num, by go_num, by omega, hcn, HN, HBr, HK⟩
      case measure => simp [intOf]; omega
    · have hge : ¬ (i : Int) < (l.length : Int) := by omega
      have HF := Lib.hid (show ((c : Nat) : Int) = (count (.mk k d l) : Int) by
        rw [HCF.out, HCi.out, List.take_of_length_le (by omega)])
      go_wp2_with fail
      go_ret
      exact ⟨by rw [← HF.out]; rfl, HK.out⟩
set_option maxRecDepth 100000 in
set_option maxHeartbeats 2000000 in
theorem depthR9_walk : ∀ (x : R) (v : Value) (w : World), RichS w x v → count x ≤ 40000 →
    Calls Tryd.prog 27 #[v] w fun e w' => e = .returned (.int .i64 (deep x : Int)) ∧ Kept (fun _ => False) w w' := by
  refine R.ind fun k d l ih v w hr hc => ?_
  rw [RichS] at hr
  obtain ⟨ao, cp, rfl, hk, ho, hA⟩ := hr
  rw [count] at hc
  have hll := counts_len l
  have HI := Lib.hid ih
  have HA := Lib.hid hA
  have HC := Lib.hid hc
  have HB := Lib.hid (Box.made w 29 (richA k d (.slice ao l.length cp)))
  clear ih hA hc
  have hlI : l.length ≤ 40000 := by have := HC.out; omega
  by_cases hk1 : k = 1
  · have HF := Lib.hid (show deep (.mk k d l) = 0 by rw [deep, if_pos hk1])
    have hkb : ((k : Int) == 1) = true := by simp; omega
    clear hk1
    go_enter Tryd.func27, Tryd.ntmps27
    go_wp2_with fail
    go_ret
    exact ⟨by rw [HF.out]; rfl, (Kept.refl _ _).alloc _⟩
  · have HCF := Lib.hid (show (deep (.mk k d l) : Int) = ((deeps l + 1 : Nat) : Int) by rw [deep, if_neg hk1])
    have hkb : ((k : Int) == 1) = false := by simp; omega
    clear hk1
    go_enter Tryd.func27, Tryd.ntmps27
    go_wp2_with fail
    go_loopw [3, 4] (fun v3 v4 wr => ∃ (i c : Nat), v3 = .int .i64 (c : Int) ∧ v4 = .int .i64 (i : Int) ∧ i ≤ l.length ∧ c ≤ 40000 ∧ Hid (c = deeps (l.take i)) ∧ Hid (Box wr w.heap.size 29 (richA k d (.slice ao l.length cp))) ∧ Hid (Kept (fun _ => False) w wr)) (fun _ v4 _ => l.length - (intOf v4).toNat)
    case atStart => exact ⟨0, 0, rfl, rfl, Nat.zero_le _, by omega, Lib.hid (by rw [List.take_zero, deeps]), HB, Lib.hid ((Kept.refl _ _).alloc _)⟩
    case round =>
      obtain ⟨i, c, rfl, rfl, hi, hc4, HCi, HBr, HK⟩ := hrel
      rename World => wr
      have b6 : wr.cell? ⟨w.heap.size, 6, none⟩ = some (.slice ao l.length cp) := HBr.out.cell 6
      by_cases hlt : i < l.length
      · obtain ⟨x, hx⟩ : ∃ x, l[i]? = some x := ⟨_, List.getElem?_eq_getElem hlt⟩
        obtain ⟨b, off, ao', cp', rfl, hb, hrx, d0, d1, d2, d3, d4, d5, d6⟩ := (ArgS.kept HK.out ao 0 l HA.out).part hx
        have hct := counts_take hx
        have hcl := counts_take_le l (i + 1)
        have hdc := deep_count9 x
        have hcx : count x ≤ 40000 := by have := HC.out; omega
        have PC := HI.out x (List.mem_of_getElem? hx) _ wr hrx hcx
        have HN := Lib.hid (show max c (deep x) = deeps (l.take (i + 1)) by rw [deeps_take9 hx, HCi.out])
        have hdx : deep x ≤ 40000 := by omega
        have hi0 : (0 : Int) ≤ (i : Int) := by omega
        have hiI : (i : Int) < (l.length : Int) := by omega
        generalize deep x = cx at *
        clear hx hrx hct hcl hdc
        have hcm : max c cx = c ∨ max c cx = cx := by omega
        by_cases hle : c < cx
        · have hmx : max (c : Int) (cx : Int) = (cx : Int) := by omega
          have hmI : (c : Int) < (cx : Int) := by omega
          have HN2 := Lib.hid (show cx = deeps (l.take (i + 1)) by rw [← HN.out]; omega)
          clear hcm hle
          go_wp2_with (first
            | (go_at_call 27; refine PC.mono ?_; rintro e w5 ⟨rfl, hk5⟩; have HK := Lib.hid (Kept.trans HK.out hk5 (fun _ _ h => h)); have HBr := Lib.hid (hk5.box HBr.out (fun h => h)); clear hk5)
            | fail)
          go_roundw
          case rel => exact ⟨i + 1, cx, by go_num, by go_num, by omega, hdx, HN2, HBr, HK⟩
          case measure => simp [intOf]; omega
        · have hmx : max (c : Int) (cx : Int) = (c : Int) := by omega
          have hmI : ¬ (c : Int) < (cx : Int) := by omega
          have HN2 := Lib.hid (show c = deeps (l.take (i + 1)) by rw [← HN.out]; omega)
          clear hcm hle
          go_wp2_with (first
            | (go_at_call 27; refine PC.mono ?_; rintro e w5 ⟨rfl, hk5⟩; have HK := Lib.hid (Kept.trans HK.out hk5 (fun _ _ h => h)); have HBr := Lib.hid (hk5.box HBr.out (fun h => h)); clear hk5)
            | fail)
          go_roundw
          case rel => exact ⟨i + 1, c, by go_num, by go_num, by omega, hc4, HN2, HBr, HK⟩
          case measure => simp [intOf]; omega
      · have hge : ¬ (i : Int) < (l.length : Int) := by omega
        have HF := Lib.hid (show ((c : Nat) : Int) + 1 = (deep (.mk k d l) : Int) by
          rw [HCF.out, HCi.out, List.take_of_length_le (by omega)]; rfl)
        go_wp2_with fail
        go_ret
        exact ⟨by rw [← HF.out]; rfl, HK.out⟩
end Go.Proofs.YtndakcognjaeoaaDoor
