/-
  The walks over the document's answer for layer 3. Conditions: as each theorem states.
-/
import Derived.Test.YtncononmlgmabaaDoorMathEvr
import Derived.Test.YtncononmlgmabaaDoorCharKit
import Derived.Test.YtncononmlgmabaaDoorRows
import Derived.Deep.CutRange
import Derived.Deep.CutBlock
import Derived.Handy
import Derived.Lib.Hide
namespace Go.Proofs.YtncononmlgmabaaDoor
open Go.RowKit Ver Evr

theorem take_ok {s : List UInt8} {i : Nat} {c : UInt8} (h : (s.take i).all okB = true) (hc : s[i]? = some c) (hok : okB c = true) : (s.take (i + 1)).all okB = true := by
  rw [List.take_add_one, hc, List.all_append, h]
  simp [hok]
theorem word_not {s : List UInt8} {i : Nat} {c : UInt8} (hc : s[i]? = some c) (hok : okB c = false) : wordE s = false := by
  unfold wordE
  have : s.all okB = false := by
    rw [List.all_eq_false]
    exact ⟨c, List.mem_of_getElem? hc, by simp [hok]⟩
  rw [this]
  rfl

set_option maxRecDepth 100000 in
set_option maxHeartbeats 1000000 in
theorem word_walk (s : ByteArray) (w : World) (hs : s.size ≤ 1000000) :
    Calls Tryd.prog 60 #[.string s] w fun e w' => e = .returned (.bool (wordE s.data.toList)) ∧ w' = w := by
  have hsl : s.data.toList.length = s.size := rfl
  have HSL := Lib.hid hsl
  clear hsl
  go_enter Tryd.func60, Tryd.ntmps60
  go_wp2_with fail
  go_loop [3] (fun v3 => ∃ i : Nat, v3 = .int .i64 (i : Int) ∧ i ≤ s.size ∧ (s.data.toList.take i).all okB = true) (fun v3 => s.size - (intOf v3).toNat)
  case atStart => exact ⟨0, rfl, Nat.zero_le _, rfl⟩
  case round =>
    obtain ⟨i, rfl, hi, ha⟩ := hrel
    have HA := Lib.hid ha
    clear ha
    by_cases hlt : i < s.size
    · obtain ⟨c, hc⟩ : ∃ c, c = s[i] := ⟨_, rfl⟩
      have HCL := Lib.hid (char_at hlt hc)
      have hc' : s[i] = c := hc.symm
      have hc256 : c.toNat < 256 := UInt8.toNat_lt c
      clear hc
      rcases (show (c.toNat < 48 ∧ c.toNat ≠ 46 ∧ c.toNat ≠ 43) ∨ (c.toNat = 46) ∨ (c.toNat = 43) ∨ (48 ≤ c.toNat ∧ c.toNat ≤ 57) ∨ (58 ≤ c.toNat ∧ c.toNat ≤ 64) ∨ (65 ≤ c.toNat ∧ c.toNat ≤ 90) ∨ (91 ≤ c.toNat ∧ c.toNat ≤ 96 ∧ c.toNat ≠ 95 ∧ c.toNat ≠ 94) ∨ (c.toNat = 95) ∨ (c.toNat = 94) ∨ (97 ≤ c.toNat ∧ c.toNat ≤ 122) ∨ (123 ≤ c.toNat ∧ c.toNat ≠ 126) ∨ (c.toNat = 126) by omega) with hcase | hcase | hcase | hcase | hcase | hcase | hcase | hcase | hcase | hcase | hcase | hcase
      · have hc := hcase
        have e46 : ((c.toNat : Int) != 46) = true := by simp; omega
        have e95 : ((c.toNat : Int) != 95) = true := by simp; omega
        have e43 : ((c.toNat : Int) != 43) = true := by simp; omega
        have e126 : ((c.toNat : Int) != 126) = true := by simp; omega
        have e94 : ((c.toNat : Int) != 94) = true := by simp; omega
        have g97 : decide ((97 : Int) ≤ (c.toNat : Int)) = false := by simp; omega
        have g65 : decide ((65 : Int) ≤ (c.toNat : Int)) = false := by simp; omega
        have g48 : decide ((48 : Int) ≤ (c.toNat : Int)) = false := by simp; omega
        have g122 : decide ((c.toNat : Int) ≤ 122) = true := by simp; omega
        have g90 : decide ((c.toNat : Int) ≤ 90) = true := by simp; omega
        have g57 : decide ((c.toNat : Int) ≤ 57) = true := by simp; omega
        have hok : okB c = false := by unfold okB; simp; omega
        obtain ⟨q0, q1, q2⟩ := hcase
        clear hc
        have HN := Lib.hid (word_not HCL.out hok)
        go_wp2_with fail
        all_goals
          go_ret
          exact ⟨by rw [HN.out]; rfl, rfl⟩
      · have hc := hcase
        have e46 : ((c.toNat : Int) != 46) = false := by simp; omega
        have e95 : ((c.toNat : Int) != 95) = true := by simp; omega
        have e43 : ((c.toNat : Int) != 43) = true := by simp; omega
        have e126 : ((c.toNat : Int) != 126) = true := by simp; omega
        have e94 : ((c.toNat : Int) != 94) = true := by simp; omega
        have g97 : decide ((97 : Int) ≤ (c.toNat : Int)) = false := by simp; omega
        have g65 : decide ((65 : Int) ≤ (c.toNat : Int)) = false := by simp; omega
        have g48 : decide ((48 : Int) ≤ (c.toNat : Int)) = false := by simp; omega
        have g122 : decide ((c.toNat : Int) ≤ 122) = true := by simp; omega
        have g90 : decide ((c.toNat : Int) ≤ 90) = true := by simp; omega
        have g57 : decide ((c.toNat : Int) ≤ 57) = true := by simp; omega
        have hok : okB c = true := by unfold okB; simp; omega
        clear hc
        have HT := Lib.hid (take_ok HA.out HCL.out hok)
        go_wp2_with fail
        all_goals
          go_round
          case rel => exact ⟨i + 1, by go_num, by omega, HT.out⟩
          case measure => simp [intOf]; omega
      · have hc := hcase
        have e46 : ((c.toNat : Int) != 46) = true := by simp; omega
        have e95 : ((c.toNat : Int) != 95) = true := by simp; omega
        have e43 : ((c.toNat : Int) != 43) = false := by simp; omega
        have e126 : ((c.toNat : Int) != 126) = true := by simp; omega
        have e94 : ((c.toNat : Int) != 94) = true := by simp; omega
        have g97 : decide ((97 : Int) ≤ (c.toNat : Int)) = false := by simp; omega
        have g65 : decide ((65 : Int) ≤ (c.toNat : Int)) = false := by simp; omega
        have g48 : decide ((48 : Int) ≤ (c.toNat : Int)) = false := by simp; omega
        have g122 : decide ((c.toNat : Int) ≤ 122) = true := by simp; omega
        have g90 : decide ((c.toNat : Int) ≤ 90) = true := by simp; omega
        have g57 : decide ((c.toNat : Int) ≤ 57) = true := by simp; omega
        have hok : okB c = true := by unfold okB; simp; omega
        clear hc
        have HT := Lib.hid (take_ok HA.out HCL.out hok)
        go_wp2_with fail
        all_goals
          go_round
          case rel => exact ⟨i + 1, by go_num, by omega, HT.out⟩
          case measure => simp [intOf]; omega
      · have hc := hcase
        have e46 : ((c.toNat : Int) != 46) = true := by simp; omega
        have e95 : ((c.toNat : Int) != 95) = true := by simp; omega
        have e43 : ((c.toNat : Int) != 43) = true := by simp; omega
        have e126 : ((c.toNat : Int) != 126) = true := by simp; omega
        have e94 : ((c.toNat : Int) != 94) = true := by simp; omega
        have g97 : decide ((97 : Int) ≤ (c.toNat : Int)) = false := by simp; omega
        have g65 : decide ((65 : Int) ≤ (c.toNat : Int)) = false := by simp; omega
        have g48 : decide ((48 : Int) ≤ (c.toNat : Int)) = true := by simp; omega
        have g122 : decide ((c.toNat : Int) ≤ 122) = true := by simp; omega
        have g90 : decide ((c.toNat : Int) ≤ 90) = true := by simp; omega
        have g57 : decide ((c.toNat : Int) ≤ 57) = true := by simp; omega
        have hok : okB c = true := by unfold okB; simp; omega
        obtain ⟨q0, q1⟩ := hcase
        clear hc
        have HT := Lib.hid (take_ok HA.out HCL.out hok)
        go_wp2_with fail
        all_goals
          go_round
          case rel => exact ⟨i + 1, by go_num, by omega, HT.out⟩
          case measure => simp [intOf]; omega
      · have hc := hcase
        have e46 : ((c.toNat : Int) != 46) = true := by simp; omega
        have e95 : ((c.toNat : Int) != 95) = true := by simp; omega
        have e43 : ((c.toNat : Int) != 43) = true := by simp; omega
        have e126 : ((c.toNat : Int) != 126) = true := by simp; omega
        have e94 : ((c.toNat : Int) != 94) = true := by simp; omega
        have g97 : decide ((97 : Int) ≤ (c.toNat : Int)) = false := by simp; omega
        have g65 : decide ((65 : Int) ≤ (c.toNat : Int)) = false := by simp; omega
        have g48 : decide ((48 : Int) ≤ (c.toNat : Int)) = true := by simp; omega
        have g122 : decide ((c.toNat : Int) ≤ 122) = true := by simp; omega
        have g90 : decide ((c.toNat : Int) ≤ 90) = true := by simp; omega
        have g57 : decide ((c.toNat : Int) ≤ 57) = false := by simp; omega
        have hok : okB c = false := by unfold okB; simp; omega
        obtain ⟨q0, q1⟩ := hcase
        clear hc
        have HN := Lib.hid (word_not HCL.out hok)
        go_wp2_with fail
        all_goals
          go_ret
          exact ⟨by rw [HN.out]; rfl, rfl⟩
      · have hc := hcase
        have e46 : ((c.toNat : Int) != 46) = true := by simp; omega
        have e95 : ((c.toNat : Int) != 95) = true := by simp; omega
        have e43 : ((c.toNat : Int) != 43) = true := by simp; omega
        have e126 : ((c.toNat : Int) != 126) = true := by simp; omega
        have e94 : ((c.toNat : Int) != 94) = true := by simp; omega
        have g97 : decide ((97 : Int) ≤ (c.toNat : Int)) = false := by simp; omega
        have g65 : decide ((65 : Int) ≤ (c.toNat : Int)) = true := by simp; omega
        have g48 : decide ((48 : Int) ≤ (c.toNat : Int)) = true := by simp; omega
        have g122 : decide ((c.toNat : Int) ≤ 122) = true := by simp; omega
        have g90 : decide ((c.toNat : Int) ≤ 90) = true := by simp; omega
        have g57 : decide ((c.toNat : Int) ≤ 57) = false := by simp; omega
        have hok : okB c = true := by unfold okB; simp; omega
        obtain ⟨q0, q1⟩ := hcase
        clear hc
        have HT := Lib.hid (take_ok HA.out HCL.out hok)
        go_wp2_with fail
        all_goals
          go_round
          case rel => exact ⟨i + 1, by go_num, by omega, HT.out⟩
          case measure => simp [intOf]; omega
      · have hc := hcase
        have e46 : ((c.toNat : Int) != 46) = true := by simp; omega
        have e95 : ((c.toNat : Int) != 95) = true := by simp; omega
        have e43 : ((c.toNat : Int) != 43) = true := by simp; omega
        have e126 : ((c.toNat : Int) != 126) = true := by simp; omega
        have e94 : ((c.toNat : Int) != 94) = true := by simp; omega
        have g97 : decide ((97 : Int) ≤ (c.toNat : Int)) = false := by simp; omega
        have g65 : decide ((65 : Int) ≤ (c.toNat : Int)) = true := by simp; omega
        have g48 : decide ((48 : Int) ≤ (c.toNat : Int)) = true := by simp; omega
        have g122 : decide ((c.toNat : Int) ≤ 122) = true := by simp; omega
        have g90 : decide ((c.toNat : Int) ≤ 90) = false := by simp; omega
        have g57 : decide ((c.toNat : Int) ≤ 57) = false := by simp; omega
        have hok : okB c = false := by unfold okB; simp; omega
        obtain ⟨q0, q1, q2, q3⟩ := hcase
        clear hc
        have HN := Lib.hid (word_not HCL.out hok)
        go_wp2_with fail
        all_goals
          go_ret
          exact ⟨by rw [HN.out]; rfl, rfl⟩
      · have hc := hcase
        have e46 : ((c.toNat : Int) != 46) = true := by simp; omega
        have e95 : ((c.toNat : Int) != 95) = false := by simp; omega
        have e43 : ((c.toNat : Int) != 43) = true := by simp; omega
        have e126 : ((c.toNat : Int) != 126) = true := by simp; omega
        have e94 : ((c.toNat : Int) != 94) = true := by simp; omega
        have g97 : decide ((97 : Int) ≤ (c.toNat : Int)) = false := by simp; omega
        have g65 : decide ((65 : Int) ≤ (c.toNat : Int)) = true := by simp; omega
        have g48 : decide ((48 : Int) ≤ (c.toNat : Int)) = true := by simp; omega
        have g122 : decide ((c.toNat : Int) ≤ 122) = true := by simp; omega
        have g90 : decide ((c.toNat : Int) ≤ 90) = false := by simp; omega
        have g57 : decide ((c.toNat : Int) ≤ 57) = false := by simp; omega
        have hok : okB c = true := by unfold okB; simp; omega
        clear hc
        have HT := Lib.hid (take_ok HA.out HCL.out hok)
        go_wp2_with fail
        all_goals
          go_round
          case rel => exact ⟨i + 1, by go_num, by omega, HT.out⟩
          case measure => simp [intOf]; omega
      · have hc := hcase
        have e46 : ((c.toNat : Int) != 46) = true := by simp; omega
        have e95 : ((c.toNat : Int) != 95) = true := by simp; omega
        have e43 : ((c.toNat : Int) != 43) = true := by simp; omega
        have e126 : ((c.toNat : Int) != 126) = true := by simp; omega
        have e94 : ((c.toNat : Int) != 94) = false := by simp; omega
        have g97 : decide ((97 : Int) ≤ (c.toNat : Int)) = false := by simp; omega
        have g65 : decide ((65 : Int) ≤ (c.toNat : Int)) = true := by simp; omega
        have g48 : decide ((48 : Int) ≤ (c.toNat : Int)) = true := by simp; omega
        have g122 : decide ((c.toNat : Int) ≤ 122) = true := by simp; omega
        have g90 : decide ((c.toNat : Int) ≤ 90) = false := by simp; omega
        have g57 : decide ((c.toNat : Int) ≤ 57) = false := by simp; omega
        have hok : okB c = true := by unfold okB; simp; omega
        clear hc
        have HT := Lib.hid (take_ok HA.out HCL.out hok)
        go_wp2_with fail
        all_goals
          go_round
          case rel => exact ⟨i + 1, by go_num, by omega, HT.out⟩
          case measure => simp [intOf]; omega
      · have hc := hcase
        have e46 : ((c.toNat : Int) != 46) = true := by simp; omega
        have e95 : ((c.toNat : Int) != 95) = true := by simp; omega
        have e43 : ((c.toNat : Int) != 43) = true := by simp; omega
        have e126 : ((c.toNat : Int) != 126) = true := by simp; omega
        have e94 : ((c.toNat : Int) != 94) = true := by simp; omega
        have g97 : decide ((97 : Int) ≤ (c.toNat : Int)) = true := by simp; omega
        have g65 : decide ((65 : Int) ≤ (c.toNat : Int)) = true := by simp; omega
        have g48 : decide ((48 : Int) ≤ (c.toNat : Int)) = true := by simp; omega
        have g122 : decide ((c.toNat : Int) ≤ 122) = true := by simp; omega
        have g90 : decide ((c.toNat : Int) ≤ 90) = false := by simp; omega
        have g57 : decide ((c.toNat : Int) ≤ 57) = false := by simp; omega
        have hok : okB c = true := by unfold okB; simp; omega
        obtain ⟨q0, q1⟩ := hcase
        clear hc
        have HT := Lib.hid (take_ok HA.out HCL.out hok)
        go_wp2_with fail
        all_goals
          go_round
          case rel => exact ⟨i + 1, by go_num, by omega, HT.out⟩
          case measure => simp [intOf]; omega
      · have hc := hcase
        have e46 : ((c.toNat : Int) != 46) = true := by simp; omega
        have e95 : ((c.toNat : Int) != 95) = true := by simp; omega
        have e43 : ((c.toNat : Int) != 43) = true := by simp; omega
        have e126 : ((c.toNat : Int) != 126) = true := by simp; omega
        have e94 : ((c.toNat : Int) != 94) = true := by simp; omega
        have g97 : decide ((97 : Int) ≤ (c.toNat : Int)) = true := by simp; omega
        have g65 : decide ((65 : Int) ≤ (c.toNat : Int)) = true := by simp; omega
        have g48 : decide ((48 : Int) ≤ (c.toNat : Int)) = true := by simp; omega
        have g122 : decide ((c.toNat : Int) ≤ 122) = false := by simp; omega
        have g90 : decide ((c.toNat : Int) ≤ 90) = false := by simp; omega
        have g57 : decide ((c.toNat : Int) ≤ 57) = false := by simp; omega
        have hok : okB c = false := by unfold okB; simp; omega
        obtain ⟨q0, q1⟩ := hcase
        clear hc
        have HN := Lib.hid (word_not HCL.out hok)
        go_wp2_with fail
        all_goals
          go_ret
          exact ⟨by rw [HN.out]; rfl, rfl⟩
      · have hc := hcase
        have e46 : ((c.toNat : Int) != 46) = true := by simp; omega
        have e95 : ((c.toNat : Int) != 95) = true := by simp; omega
        have e43 : ((c.toNat : Int) != 43) = true := by simp; omega
        have e126 : ((c.toNat : Int) != 126) = false := by simp; omega
        have e94 : ((c.toNat : Int) != 94) = true := by simp; omega
        have g97 : decide ((97 : Int) ≤ (c.toNat : Int)) = true := by simp; omega
        have g65 : decide ((65 : Int) ≤ (c.toNat : Int)) = true := by simp; omega
        have g48 : decide ((48 : Int) ≤ (c.toNat : Int)) = true := by simp; omega
        have g122 : decide ((c.toNat : Int) ≤ 122) = false := by simp; omega
        have g90 : decide ((c.toNat : Int) ≤ 90) = false := by simp; omega
        have g57 : decide ((c.toNat : Int) ≤ 57) = false := by simp; omega
        have hok : okB c = true := by unfold okB; simp; omega
        clear hc
        have HT := Lib.hid (take_ok HA.out HCL.out hok)
        go_wp2_with fail
        all_goals
          go_round
          case rel => exact ⟨i + 1, by go_num, by omega, HT.out⟩
          case measure => simp [intOf]; omega
    · have e : i = s.size := by omega
      have HF := Lib.hid (show wordE s.data.toList = (decide (1 ≤ s.size) && decide (s.size ≤ 64)) by
        unfold wordE
        have h := HA.out
        rw [e, ← HSL.out, List.take_length] at h
        rw [h, HSL.out]
        simp)
      by_cases h1 : 1 ≤ s.size
      · by_cases h2 : s.size ≤ 64
        · have g1 : decide ((1 : Int) ≤ (s.size : Int)) = true := by simp; omega
          have g2 : decide ((s.size : Int) ≤ 64) = true := by simp; omega
          have HG := Lib.hid (show (decide (1 ≤ s.size) && decide (s.size ≤ 64)) = true by simp [h1, h2])
          go_wp2_with fail
          go_ret
          exact ⟨by rw [HF.out, HG.out]; rfl, rfl⟩
        · have g1 : decide ((1 : Int) ≤ (s.size : Int)) = true := by simp; omega
          have g2 : decide ((s.size : Int) ≤ 64) = false := by simp; omega
          have HG := Lib.hid (show (decide (1 ≤ s.size) && decide (s.size ≤ 64)) = false by simp [h2])
          go_wp2_with fail
          go_ret
          exact ⟨by rw [HF.out, HG.out]; rfl, rfl⟩
      · have g1 : decide ((1 : Int) ≤ (s.size : Int)) = false := by simp; omega
        have HG := Lib.hid (show (decide (1 ≤ s.size) && decide (s.size ≤ 64)) = false by simp [h1])
        go_wp2_with fail
        go_ret
        exact ⟨by rw [HF.out, HG.out]; rfl, rfl⟩
end Go.Proofs.YtncononmlgmabaaDoor
