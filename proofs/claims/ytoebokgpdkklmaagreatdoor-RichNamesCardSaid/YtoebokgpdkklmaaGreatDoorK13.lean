/-
  The walks over the document's answer for layer 3. Plain facts on EVRs as the program has them. Nothing of the program is named here. The walks over the document's answer for layer 3. strings.IndexByte among the signs of a version, and strings.Cut around one byte, whatever the library's variables hold. Contracts of the library that the program's dep asks, out of the shelf: ValidRune, HasPrefix, IndexRune. Nothing of the program is named here. Conditions: as each theorem states.
-/
import Derived.Test.YtoebokgpdkklmaaGreatDoorK01
import Derived.Test.YtoebokgpdkklmaaGreatDoorK04
import Derived.Test.YtoebokgpdkklmaaGreatDoorRows
import Derived.Deep.CutRange
import Derived.Deep.CutBlock
import Derived.Handy
import Derived.Lib.Hide
import Derived.Deep.QuietTactic
import Derived.BigQuiet
import Derived.Test.YtoebokgpdkklmaaGreatDoorK12
import Derived.Shelf.Small.Strs
import Derived.Shelf.Strings.Search2
import Derived.WalkKit
import Derived.Shelf.Strings.Search3
import Derived.Shelf.Strings.Prefix
import Derived.Shelf.Strings.Runes
import Derived.Shelf.Small.Utf8
import Derived.Lib.IndexBytes
namespace Go.Proofs.YtoebokgpdkklmaaGreatDoor
open Go.RowKit Ver Evr

theorem take_ok {s : List UInt8} {i : Nat} {c : UInt8} (h : (s.take i).all okB = true) (hc : s[i]? = some c) (hok : okB c = true) : (s.take (i + 1)).all okB = true := by
  rw [List.take_add_one, hc, List.all_append, h]
  simp [hok]
theorem word_not {s : List UInt8} {i : Nat} {c : UInt8} (hc : s[i]? = some c) (hok : okB c = false) : wordE s = false := by
  unfold wordE
  have : s.all okB = false := by
    rw [List.all_eq_false]
    exact ⟨c, List.mem_of_getElem? hc, by simp [hok]⟩
  rw [this]
  rfl

set_option maxRecDepth 100000 in
set_option maxHeartbeats 1000000 in
theorem word_walk (s : ByteArray) (w : World) (hs : s.size ≤ 1000000) :
    Calls Tryz.prog 73 #[.string s] w fun e w' => e = .returned (.bool (wordE s.data.toList)) ∧ w' = w := by
  have hsl : s.data.toList.length = s.size := rfl
  have HSL := Lib.hid hsl
  clear hsl
  go_enter Tryz.func73, Tryz.ntmps73
  go_wp2_with fail
  go_loop [3] (fun v3 => ∃ i : Nat, v3 = .int .i64 (i : Int) ∧ i ≤ s.size ∧ (s.data.toList.take i).all okB = true) (fun v3 => s.size - (intOf v3).toNat)
  case atStart => exact ⟨0, rfl, Nat.zero_le _, rfl⟩
  case round =>
    obtain ⟨i, rfl, hi, ha⟩ := hrel
    have HA := Lib.hid ha
    clear ha
    by_cases hlt : i < s.size
    · obtain ⟨c, hc⟩ : ∃ c, c = s[i] := ⟨_, rfl⟩
      have HCL := Lib.hid (char_at hlt hc)
      have hc' : s[i] = c := hc.symm
      have hc256 : c.toNat < 256 := UInt8.toNat_lt c
      clear hc
      rcases (show (c.toNat < 48 ∧ c.toNat ≠ 46 ∧ c.toNat ≠ 43) ∨ (c.toNat = 46) ∨ (c.toNat = 43) ∨ (48 ≤ c.toNat ∧ c.toNat ≤ 57) ∨ (58 ≤ c.toNat ∧ c.toNat ≤ 64) ∨ (65 ≤ c.toNat ∧ c.toNat ≤ 90) ∨ (91 ≤ c.toNat ∧ c.toNat ≤ 96 ∧ c.toNat ≠ 95 ∧ c.toNat ≠ 94) ∨ (c.toNat = 95) ∨ (c.toNat = 94) ∨ (97 ≤ c.toNat ∧ c.toNat ≤ 122) ∨ (123 ≤ c.toNat ∧ c.toNat ≠ 126) ∨ (c.toNat = 126) by omega) with hcase | hcase | hcase | hcase | hcase | hcase | hcase | hcase | hcase | hcase | hcase | hcase
      · have hc := hcase
        have e46 : ((c.toNat : Int) != 46) = true := by simp; omega
        have e95 : ((c.toNat : Int) != 95) = true := by simp; omega
        have e43 : ((c.toNat : Int) != 43) = true := by simp; omega
        have e126 : ((c.toNat : Int) != 126) = true := by simp; omega
        have e94 : ((c.toNat : Int) != 94) = true := by simp; omega
        have g97 : decide ((97 : Int) ≤ (c.toNat : Int)) = false := by simp; omega
        have g65 : decide ((65 : Int) ≤ (c.toNat : Int)) = false := by simp; omega
        have g48 : decide ((48 : Int) ≤ (c.toNat : Int)) = false := by simp; omega
        have g122 : decide ((c.toNat : Int) ≤ 122) = true := by simp; omega
        have g90 : decide ((c.toNat : Int) ≤ 90) = true := by simp; omega
        have g57 : decide ((c.toNat : Int) ≤ 57) = true := by simp; omega
        have hok : okB c = false := by unfold okB; simp; omega
        obtain ⟨q0, q1, q2⟩ := hcase
        clear hc
        have HN := Lib.hid (word_not HCL.out hok)
        go_wp2_with fail
        all_goals
          go_ret
          exact ⟨by rw [HN.out]; rfl, rfl⟩
      · have hc := hcase
        have e46 : ((c.toNat : Int) != 46) = false := by simp; omega
        have e95 : ((c.toNat : Int) != 95) = true := by simp; omega
        have e43 : ((c.toNat : Int) != 43) = true := by simp; omega
        have e126 : ((c.toNat : Int) != 126) = true := by simp; omega
        have e94 : ((c.toNat : Int) != 94) = true := by simp; omega
        have g97 : decide ((97 : Int) ≤ (c.toNat : Int)) = false := by simp; omega
        have g65 : decide ((65 : Int) ≤ (c.toNat : Int)) = false := by simp; omega
        have g48 : decide ((48 : Int) ≤ (c.toNat : Int)) = false := by simp; omega
        have g122 : decide ((c.toNat : Int) ≤ 122) = true := by simp; omega
        have g90 : decide ((c.toNat : Int) ≤ 90) = true := by simp; omega
        have g57 : decide ((c.toNat : Int) ≤ 57) = true := by simp; omega
        have hok : okB c = true := by unfold okB; simp; omega
        clear hc
        have HT := Lib.hid (take_ok HA.out HCL.out hok)
        go_wp2_with fail
        all_goals
          go_round
          case rel => exact ⟨i + 1, by go_num, by omega, HT.out⟩
          case measure => simp [intOf]; omega
      · have hc := hcase
        have e46 : ((c.toNat : Int) != 46) = true := by simp; omega
        have e95 : ((c.toNat : Int) != 95) = true := by simp; omega
        have e43 : ((c.toNat : Int) != 43) = false := by simp; omega
        have e126 : ((c.toNat : Int) != 126) = true := by simp; omega
        have e94 : ((c.toNat : Int) != 94) = true := by simp; omega
        have g97 : decide ((97 : Int) ≤ (c.toNat : Int)) = false := by simp; omega
        have g65 : decide ((65 : Int) ≤ (c.toNat : Int)) = false := by simp; omega
        have g48 : decide ((48 : Int) ≤ (c.toNat : Int)) = false := by simp; omega
        have g122 : decide ((c.toNat : Int) ≤ 122) = true := by simp; omega
        have g90 : decide ((c.toNat : Int) ≤ 90) = true := by simp; omega
        have g57 : decide ((c.toNat : Int) ≤ 57) = true := by simp; omega
        have hok : okB c = true := by unfold okB; simp; omega
        clear hc
        have HT := Lib.hid (take_ok HA.out HCL.out hok)
        go_wp2_with fail
        all_goals
          go_round
          case rel => exact ⟨i + 1, by go_num, by omega, HT.out⟩
          case measure => simp [intOf]; omega
      · have hc := hcase
        have e46 : ((c.toNat : Int) != 46) = true := by simp; omega
        have e95 : ((c.toNat : Int) != 95) = true := by simp; omega
        have e43 : ((c.toNat : Int) != 43) = true := by simp; omega
        have e126 : ((c.toNat : Int) != 126) = true := by simp; omega
        have e94 : ((c.toNat : Int) != 94) = true := by simp; omega
        have g97 : decide ((97 : Int) ≤ (c.toNat : Int)) = false := by simp; omega
        have g65 : decide ((65 : Int) ≤ (c.toNat : Int)) = false := by simp; omega
        have g48 : decide ((48 : Int) ≤ (c.toNat : Int)) = true := by simp; omega
        have g122 : decide ((c.toNat : Int) ≤ 122) = true := by simp; omega
        have g90 : decide ((c.toNat : Int) ≤ 90) = true := by simp; omega
        have g57 : decide ((c.toNat : Int) ≤ 57) = true := by simp; omega
        have hok : okB c = true := by unfold okB; simp; omega
        obtain ⟨q0, q1⟩ := hcase
        clear hc
        have HT := Lib.hid (take_ok HA.out HCL.out hok)
        go_wp2_with fail
        all_goals
          go_round
          case rel => exact ⟨i + 1, by go_num, by omega, HT.out⟩
          case measure => simp [intOf]; omega
      · have hc := hcase
        have e46 : ((c.toNat : Int) != 46) = true := by simp; omega
        have e95 : ((c.toNat : Int) != 95) = true := by simp; omega
        have e43 : ((c.toNat : Int) != 43) = true := by simp; omega
        have e126 : ((c.toNat : Int) != 126) = true := by simp; omega
        have e94 : ((c.toNat : Int) != 94) = true := by simp; omega
        have g97 : decide ((97 : Int) ≤ (c.toNat : Int)) = false := by simp; omega
        have g65 : decide ((65 : Int) ≤ (c.toNat : Int)) = false := by simp; omega
        have g48 : decide ((48 : Int) ≤ (c.toNat : Int)) = true := by simp; omega
        have g122 : decide ((c.toNat : Int) ≤ 122) = true := by simp; omega
        have g90 : decide ((c.toNat : Int) ≤ 90) = true := by simp; omega
        have g57 : decide ((c.toNat : Int) ≤ 57) = false := by simp; omega
        have hok : okB c = false := by unfold okB; simp; omega
        obtain ⟨q0, q1⟩ := hcase
        clear hc
        have HN := Lib.hid (word_not HCL.out hok)
        go_wp2_with fail
        all_goals
          go_ret
          exact ⟨by rw [HN.out]; rfl, rfl⟩
      · have hc := hcase
        have e46 : ((c.toNat : Int) != 46) = true := by simp; omega
        have e95 : ((c.toNat : Int) != 95) = true := by simp; omega
        have e43 : ((c.toNat : Int) != 43) = true := by simp; omega
        have e126 : ((c.toNat : Int) != 126) = true := by simp; omega
        have e94 : ((c.toNat : Int) != 94) = true := by simp; omega
        have g97 : decide ((97 : Int) ≤ (c.toNat : Int)) = false := by simp; omega
        have g65 : decide ((65 : Int) ≤ (c.toNat : Int)) = true := by simp; omega
        have g48 : decide ((48 : Int) ≤ (c.toNat : Int)) = true := by simp; omega
        have g122 : decide ((c.toNat : Int) ≤ 122) = true := by simp; omega
        have g90 : decide ((c.toNat : Int) ≤ 90) = true := by simp; omega
        have g57 : decide ((c.toNat : Int) ≤ 57) = false := by simp; omega
        have hok : okB c = true := by unfold okB; simp; omega
        obtain ⟨q0, q1⟩ := hcase
        clear hc
        have HT := Lib.hid (take_ok HA.out HCL.out hok)
        go_wp2_with fail
        all_goals
          go_round
          case rel => exact ⟨i + 1, by go_num, by omega, HT.out⟩
          case measure => simp [intOf]; omega
      · have hc := hcase
        have e46 : ((c.toNat : Int) != 46) = true := by simp; omega
        have e95 : ((c.toNat : Int) != 95) = true := by simp; omega
        have e43 : ((c.toNat : Int) != 43) = true := by simp; omega
        have e126 : ((c.toNat : Int) != 126) = true := by simp; omega
        have e94 : ((c.toNat : Int) != 94) = true := by simp; omega
        have g97 : decide ((97 : Int) ≤ (c.toNat : Int)) = false := by simp; omega
        have g65 : decide ((65 : Int) ≤ (c.toNat : Int)) = true := by simp; omega
        have g48 : decide ((48 : Int) ≤ (c.toNat : Int)) = true := by simp; omega
        have g122 : decide ((c.toNat : Int) ≤ 122) = true := by simp; omega
        have g90 : decide ((c.toNat : Int) ≤ 90) = false := by simp; omega
        have g57 : decide ((c.toNat : Int) ≤ 57) = false := by simp; omega
        have hok : okB c = false := by unfold okB; simp; omega
        obtain ⟨q0, q1, q2, q3⟩ := hcase
        clear hc
        have HN := Lib.hid (word_not HCL.out hok)
        go_wp2_with fail
        all_goals
          go_ret
          exact ⟨by rw [HN.out]; rfl, rfl⟩
      · have hc := hcase
        have e46 : ((c.toNat : Int) != 46) = true := by simp; omega
        have e95 : ((c.toNat : Int) != 95) = false := by simp; omega
        have e43 : ((c.toNat : Int) != 43) = true := by simp; omega
        have e126 : ((c.toNat : Int) != 126) = true := by simp; omega
        have e94 : ((c.toNat : Int) != 94) = true := by simp; omega
        have g97 : decide ((97 : Int) ≤ (c.toNat : Int)) = false := by simp; omega
        have g65 : decide ((65 : Int) ≤ (c.toNat : Int)) = true := by simp; omega
        have g48 : decide ((48 : Int) ≤ (c.toNat : Int)) = true := by simp; omega
        have g122 : decide ((c.toNat : Int) ≤ 122) = true := by simp; omega
        have g90 : decide ((c.toNat : Int) ≤ 90) = false := by simp; omega
        have g57 : decide ((c.toNat : Int) ≤ 57) = false := by simp; omega
        have hok : okB c = true := by unfold okB; simp; omega
        clear hc
        have HT := Lib.hid (take_ok HA.out HCL.out hok)
        go_wp2_with fail
        all_goals
          go_round
          case rel => exact ⟨i + 1, by go_num, by omega, HT.out⟩
          case measure => simp [intOf]; omega
      · have hc := hcase
        have e46 : ((c.toNat : Int) != 46) = true := by simp; omega
        have e95 : ((c.toNat : Int) != 95) = true := by simp; omega
        have e43 : ((c.toNat : Int) != 43) = true := by simp; omega
        have e126 : ((c.toNat : Int) != 126) = true := by simp; omega
        have e94 : ((c.toNat : Int) != 94) = false := by simp; omega
        have g97 : decide ((97 : Int) ≤ (c.toNat : Int)) = false := by simp; omega
        have g65 : decide ((65 : Int) ≤ (c.toNat : Int)) = true := by simp; omega
        have g48 : decide ((48 : Int) ≤ (c.toNat : Int)) = true := by simp; omega
        have g122 : decide ((c.toNat : Int) ≤ 122) = true := by simp; omega
        have g90 : decide ((c.toNat : Int) ≤ 90) = false := by simp; omega
        have g57 : decide ((c.toNat : Int) ≤ 57) = false := by simp; omega
        have hok : okB c = true := by unfold okB; simp; omega
        clear hc
        have HT := Lib.hid (take_ok HA.out HCL.out hok)
        go_wp2_with fail
        all_goals
          go_round
          case rel => exact ⟨i + 1, by go_num, by omega, HT.out⟩
          case measure => simp [intOf]; omega
      · have hc := hcase
        have e46 : ((c.toNat : Int) != 46) = true := by simp; omega
        have e95 : ((c.toNat : Int) != 95) = true := by simp; omega
        have e43 : ((c.toNat : Int) != 43) = true := by simp; omega
        have e126 : ((c.toNat : Int) != 126) = true := by simp; omega
        have e94 : ((c.toNat : Int) != 94) = true := by simp; omega
        have g97 : decide ((97 : Int) ≤ (c.toNat : Int)) = true := by simp; omega
        have g65 : decide ((65 : Int) ≤ (c.toNat : Int)) = true := by simp; omega
        have g48 : decide ((48 : Int) ≤ (c.toNat : Int)) = true := by simp; omega
        have g122 : decide ((c.toNat : Int) ≤ 122) = true := by simp; omega
        have g90 : decide ((c.toNat : Int) ≤ 90) = false := by simp; omega
        have g57 : decide ((c.toNat : Int) ≤ 57) = false := by simp; omega
        have hok : okB c = true := by unfold okB; simp; omega
        obtain ⟨q0, q1⟩ := hcase
        clear hc
        have HT := Lib.hid (take_ok HA.out HCL.out hok)
        go_wp2_with fail
        all_goals
          go_round
          case rel => exact ⟨i + 1, by go_num, by omega, HT.out⟩
          case measure => simp [intOf]; omega
      · have hc := hcase
        have e46 : ((c.toNat : Int) != 46) = true := by simp; omega
        have e95 : ((c.toNat : Int) != 95) = true := by simp; omega
        have e43 : ((c.toNat : Int) != 43) = true := by simp; omega
        have e126 : ((c.toNat : Int) != 126) = true := by simp; omega
        have e94 : ((c.toNat : Int) != 94) = true := by simp; omega
        have g97 : decide ((97 : Int) ≤ (c.toNat : Int)) = true := by simp; omega
        have g65 : decide ((65 : Int) ≤ (c.toNat : Int)) = true := by simp; omega
        have g48 : decide ((48 : Int) ≤ (c.toNat : Int)) = true := by simp; omega
        have g122 : decide ((c.toNat : Int) ≤ 122) = false := by simp; omega
        have g90 : decide ((c.toNat : Int) ≤ 90) = false := by simp; omega
        have g57 : decide ((c.toNat : Int) ≤ 57) = false := by simp; omega
        have hok : okB c = false := by unfold okB; simp; omega
        obtain ⟨q0, q1⟩ := hcase
        clear hc
        have HN := Lib.hid (word_not HCL.out hok)
        go_wp2_with fail
        all_goals
          go_ret
          exact ⟨by rw [HN.out]; rfl, rfl⟩
      · have hc := hcase
        have e46 : ((c.toNat : Int) != 46) = true := by simp; omega
        have e95 : ((c.toNat : Int) != 95) = true := by simp; omega
        have e43 : ((c.toNat : Int) != 43) = true := by simp; omega
        have e126 : ((c.toNat : Int) != 126) = false := by simp; omega
        have e94 : ((c.toNat : Int) != 94) = true := by simp; omega
        have g97 : decide ((97 : Int) ≤ (c.toNat : Int)) = true := by simp; omega
        have g65 : decide ((65 : Int) ≤ (c.toNat : Int)) = true := by simp; omega
        have g48 : decide ((48 : Int) ≤ (c.toNat : Int)) = true := by simp; omega
        have g122 : decide ((c.toNat : Int) ≤ 122) = false := by simp; omega
        have g90 : decide ((c.toNat : Int) ≤ 90) = false := by simp; omega
        have g57 : decide ((c.toNat : Int) ≤ 57) = false := by simp; omega
        have hok : okB c = true := by unfold okB; simp; omega
        clear hc
        have HT := Lib.hid (take_ok HA.out HCL.out hok)
        go_wp2_with fail
        all_goals
          go_round
          case rel => exact ⟨i + 1, by go_num, by omega, HT.out⟩
          case measure => simp [intOf]; omega
    · have e : i = s.size := by omega
      have HF := Lib.hid (show wordE s.data.toList = (decide (1 ≤ s.size) && decide (s.size ≤ 64)) by
        unfold wordE
        have h := HA.out
        rw [e, ← HSL.out, List.take_length] at h
        rw [h, HSL.out]
        simp)
      by_cases h1 : 1 ≤ s.size
      · by_cases h2 : s.size ≤ 64
        · have g1 : decide ((1 : Int) ≤ (s.size : Int)) = true := by simp; omega
          have g2 : decide ((s.size : Int) ≤ 64) = true := by simp; omega
          have HG := Lib.hid (show (decide (1 ≤ s.size) && decide (s.size ≤ 64)) = true by simp [h1, h2])
          go_wp2_with fail
          go_ret
          exact ⟨by rw [HF.out, HG.out]; rfl, rfl⟩
        · have g1 : decide ((1 : Int) ≤ (s.size : Int)) = true := by simp; omega
          have g2 : decide ((s.size : Int) ≤ 64) = false := by simp; omega
          have HG := Lib.hid (show (decide (1 ≤ s.size) && decide (s.size ≤ 64)) = false by simp [h2])
          go_wp2_with fail
          go_ret
          exact ⟨by rw [HF.out, HG.out]; rfl, rfl⟩
      · have g1 : decide ((1 : Int) ≤ (s.size : Int)) = false := by simp; omega
        have HG := Lib.hid (show (decide (1 ≤ s.size) && decide (s.size ≤ 64)) = false by simp [h1])
        go_wp2_with fail
        go_ret
        exact ⟨by rw [HF.out, HG.out]; rfl, rfl⟩
end Go.Proofs.YtoebokgpdkklmaaGreatDoor

namespace Go.Proofs.YtoebokgpdkklmaaGreatDoor
open Go.RowKit Ver Evr

def evrE (n : Int) (v r : ByteArray) : E := ⟨n, v.data.toList, r.data.toList⟩
/-- An EVR as a struct. -/
def evrV (n : Int) (v r : ByteArray) : Value := .agg #[.int .i64 n, .string v, .string r]
theorem empty_text {r : ByteArray} : r.data.toList = [] ↔ r = ⟨#[]⟩ := by
  constructor
  · intro h
    cases r with
    | mk d =>
      have : d = #[] := by cases d; simp_all
      rw [this]
  · intro h; rw [h]
theorem text_ne {r : ByteArray} (h : r ≠ ⟨#[]⟩) : (r.toList == []) = false ∧ ¬ r.toList = [] := by
  have : ¬ r.toList = [] := by rw [ByteArray.toList_eq]; exact fun e => h (empty_text.1 e)
  exact ⟨beq_eq_false_iff_ne.2 this, this⟩
end Go.Proofs.YtoebokgpdkklmaaGreatDoor

namespace Go.Proofs.YtoebokgpdkklmaaGreatDoor
open Go.RowKit Ver Evr

/-- An EVR. -/
theorem may_low {n : Int} {v r : ByteArray} {dep : Bool} (h : n < 0 ∨ 2147483647 < n) : mayE (evrE n v r) dep = false := by
  unfold mayE evrE
  rcases h with h | h
  · simp [show ¬ 0 ≤ n by omega]
  · simp [show ¬ n ≤ 2147483647 by omega]
theorem may_ver {n : Int} {v r : ByteArray} {dep : Bool} (h : wordE v.data.toList = false) : mayE (evrE n v r) dep = false := by unfold mayE evrE; simp [h]
theorem may_dep {n : Int} {v : ByteArray} {dep : Bool} (h0 : 0 ≤ n) (h1 : n ≤ 2147483647) (h : wordE v.data.toList = true) : mayE (evrE n v ⟨#[]⟩) dep = dep := by unfold mayE evrE; simp [h, h0, h1]
theorem may_rel {n : Int} {v r : ByteArray} {dep : Bool} (h0 : 0 ≤ n) (h1 : n ≤ 2147483647) (h : wordE v.data.toList = true) (hr : r ≠ ⟨#[]⟩) : mayE (evrE n v r) dep = wordE r.data.toList := by
  unfold mayE evrE
  simp only [h, h0, h1, decide_true, Bool.true_and, if_neg (fun e => hr (empty_text.1 e))]

set_option maxRecDepth 100000 in
set_option maxHeartbeats 1000000 in
theorem may_walk (n : Int) (v r : ByteArray) (dep : Bool) (w : World) (hv : v.size ≤ 1000000) (hr : r.size ≤ 1000000) :
    Calls Tryz.prog 57 #[evrV n v r, .bool dep] w fun e w' => e = .returned (.bool (mayE (evrE n v r) dep)) ∧ Kept (fun _ => False) w w' := by
  unfold evrV
  have W1 := fun w => word_walk v w hv
  have W2 := fun w => word_walk r w hr
  by_cases h0 : n < 0
  · have HN := Lib.hid (@may_low n v r dep (.inl h0))
    have g0 : decide (n < 0) = true := by simp [h0]
    clear h0
    go_enter Tryz.func57, Tryz.ntmps57
    go_wp2_with fail
    go_ret
    exact ⟨by rw [HN.out]; rfl, (Kept.refl _ _).alloc _⟩
  · by_cases h1 : 2147483647 < n
    · have HN := Lib.hid (@may_low n v r dep (.inr h1))
      have g0 : decide (n < 0) = false := by simp; omega
      have g1 : decide (2147483647 < n) = true := by simp [h1]
      clear h1 h0
      go_enter Tryz.func57, Tryz.ntmps57
      go_wp2_with fail
      go_ret
      exact ⟨by rw [HN.out]; rfl, (Kept.refl _ _).alloc _⟩
    · have g0 : decide (n < 0) = false := by simp; omega
      have g1 : decide (2147483647 < n) = false := by simp; omega
      by_cases hw : wordE v.data.toList = true
      · by_cases hr0 : r = ⟨#[]⟩
        · subst hr0
          have HN := Lib.hid (@may_dep n v dep (by omega) (by omega) hw)
          rw [hw] at W1
          clear h1 h0 hw
          go_enter Tryz.func57, Tryz.ntmps57
          go_wp2_with (first | (go_at_call 73; with_reducible refine (W1 _).mono ?_; rintro e w1 ⟨rfl, rfl⟩) | fail)
          go_ret
          exact ⟨by rw [HN.out]; rfl, (Kept.refl _ _).alloc _⟩
        · have HN := Lib.hid (@may_rel n v r dep (by omega) (by omega) hw hr0)
          obtain ⟨b1, b2⟩ := text_ne hr0
          rw [hw] at W1
          clear h1 h0 hw hr0
          go_enter Tryz.func57, Tryz.ntmps57
          go_wp2_with (first | (go_at_call 73; (first | (with_reducible refine (W1 _).mono ?_) | (with_reducible refine (W2 _).mono ?_)); rintro e w1 ⟨rfl, rfl⟩) | fail)
          go_ret
          exact ⟨by rw [HN.out]; rfl, (Kept.refl _ _).alloc _⟩
      · have hw' : wordE v.data.toList = false := by simpa using hw
        have HN := Lib.hid (@may_ver n v r dep hw')
        rw [hw'] at W1
        clear h1 h0 hw hw'
        go_enter Tryz.func57, Tryz.ntmps57
        go_wp2_with (first | (go_at_call 73; with_reducible refine (W1 _).mono ?_; rintro e w1 ⟨rfl, rfl⟩) | fail)
        go_ret
        exact ⟨by rw [HN.out]; rfl, (Kept.refl _ _).alloc _⟩

/-- What cut answers. -/
def CutR (s : ByteArray) (c : UInt8) (e : Ending) : Prop := ∃ x y z, e = .returned (.tuple #[.string x, .string y, .bool z]) ∧ cut c s.data.toList = (x.data.toList, y.data.toList, z) ∧ x.size ≤ s.size ∧ y.size ≤ s.size
theorem cut_step {c b : UInt8} {x y : List UInt8} (hx : ∀ z ∈ x, z ≠ c) (h : b = c) : cut c (x ++ b :: y) = (x, y, true) := by rw [h]; exact cut_at c x y hx
end Go.Proofs.YtoebokgpdkklmaaGreatDoor

namespace Go.Proofs.YtoebokgpdkklmaaGreatDoor
open Go.Shelf
def sh_lays137_ren : Go.Shelf.Ren := ⟨fun | 137 => 89 | 217 => 98 | 266 => 105 | n => n, fun | 9 => 9 | 5 => 5 | 3 => 3 | n => n, fun | n => n⟩
theorem sh_lays137 : Go.Proofs.Lays.n137 Tryz.prog sh_lays137_ren := {
  mixed := by kernel_rfl
  f137 := Tryz.func89.trans (congrArg some (by kernel_rfl))
  f217 := Tryz.func98.trans (congrArg some (by kernel_rfl))
  f266 := Tryz.func105.trans (congrArg some (by kernel_rfl))
  t3 := Tryz.underlying3
  a3 := Tryz.isAgg3
  z3 := Tryz.sizeOf3
  v3 := Tryz.zeroValue3
  t5 := Tryz.underlying5
  a5 := Tryz.isAgg5
  z5 := Tryz.sizeOf5
  v5 := Tryz.zeroValue5
  t9 := Tryz.underlying9
  a9 := Tryz.isAgg9
  z9 := Tryz.sizeOf9
  v9 := Tryz.zeroValue9 }
open Go.RowKit in
theorem sh_strings_IndexByte (s : ByteArray) (c : Int) (w : World) :
    Calls Tryz.prog 89 #[.string s, .int .u8 c] w fun e w' => e = .returned (.int .i64 (Lib.indexByte s.data.toList c.toNat.toUInt8)) ∧ w' = w := Any.strings_IndexByte sh_lays137 s c w
def sh_lays219_ren : Go.Shelf.Ren := ⟨fun | 219 => 113 | 217 => 98 | 225 => 97 | 224 => 96 | 267 => 119 | 266 => 105 | 314 => 122 | n => n, fun | 9 => 9 | 3 => 3 | 4 => 4 | 5 => 5 | 46 => 130 | 146 => 156 | 51 => 135 | n => n, fun | 1 => 3 | n => n⟩
theorem sh_lays219 : Go.Proofs.Lays.n219 Tryz.prog sh_lays219_ren := {
  mixed := by kernel_rfl
  f217 := Tryz.func98.trans (congrArg some (by kernel_rfl))
  f219 := Tryz.func113.trans (congrArg some (by kernel_rfl))
  f224 := Tryz.func96.trans (congrArg some (by kernel_rfl))
  f225 := Tryz.func97.trans (congrArg some (by kernel_rfl))
  f266 := Tryz.func105.trans (congrArg some (by kernel_rfl))
  f267 := Tryz.func119.trans (congrArg some (by kernel_rfl))
  f314 := Tryz.func122.trans (congrArg some (by kernel_rfl))
  t3 := Tryz.underlying3
  a3 := Tryz.isAgg3
  z3 := Tryz.sizeOf3
  v3 := Tryz.zeroValue3
  t4 := Tryz.underlying4
  a4 := Tryz.isAgg4
  z4 := Tryz.sizeOf4
  v4 := Tryz.zeroValue4
  t5 := Tryz.underlying5
  a5 := Tryz.isAgg5
  z5 := Tryz.sizeOf5
  v5 := Tryz.zeroValue5
  t9 := Tryz.underlying9
  a9 := Tryz.isAgg9
  z9 := Tryz.sizeOf9
  v9 := Tryz.zeroValue9
  t46 := Tryz.underlying130
  a46 := Tryz.isAgg130
  z46 := Tryz.sizeOf130
  v46 := Tryz.zeroValue130
  t51 := Tryz.underlying135
  a51 := Tryz.isAgg135
  z51 := Tryz.sizeOf135
  v51 := Tryz.zeroValue135
  t146 := Tryz.underlying156
  a146 := Tryz.isAgg156
  z146 := Tryz.sizeOf156
  v146 := Tryz.zeroValue156
  g1 := by kernel_rfl }
open Go.RowKit Go.Lib in
theorem sh_stringslite_Index_one (s : ByteArray) (c : UInt8) (w : World) :
    Calls Tryz.prog 113 #[.string s, .string ⟨#[c]⟩] w fun e w' => e = .returned (.int .i64 (Lib.indexByte s.data.toList c)) ∧ w' = w := Any.stringslite_Index_one sh_lays219 s c w
open Go.RowKit Ver Evr
theorem index_sign (b : UInt8) (w : World) :
    Calls Tryz.prog 89 #[.string ⟨#[46, 95, 43, 126, 94]⟩, .int .u8 (b.toNat : Int)] w fun e w' => e = .returned (.int .i64 (Lib.indexByte [46, 95, 43, 126, 94] b)) ∧ w' = w :=
  (sh_strings_IndexByte ⟨#[46, 95, 43, 126, 94]⟩ (b.toNat : Int) w).mono fun e w' ⟨h1, h2⟩ => ⟨by rw [h1]; simp, h2⟩
theorem byte_index (c : UInt8) : ∀ l : List UInt8, (Lib.indexByte l c = -1 ∧ cut c l = (l, [], false)) ∨ ∃ i : Nat, Lib.indexByte l c = i ∧ i < l.length ∧ cut c l = (l.take i, l.drop (i + 1), true)
  | [] => .inl ⟨rfl, rfl⟩
  | b :: l => by
    rw [cut, Lib.indexByte]
    by_cases h : b = c
    · subst h
      exact .inr ⟨0, by simp, by simp, by simp⟩
    · rw [if_neg h]
      have h1 : (b == c) = false := by simp; exact h
      rw [h1]
      rcases byte_index c l with ⟨h2, h3⟩ | ⟨i, h2, hi, h3⟩
      · rw [h2, h3]; exact .inl ⟨rfl, rfl⟩
      · rw [h2, h3]
        refine .inr ⟨i + 1, ?_, by simp; omega, by simp⟩
        have h4 : ((i : Int) == -1) = false := by rw [beq_eq_false_iff_ne]; omega
        simp [h4]
set_option maxRecDepth 100000 in
set_option maxHeartbeats 1000000 in
theorem litecut_walk (s : ByteArray) (c : UInt8) (w : World) (hs : s.size ≤ 1000000) :
    Calls Tryz.prog 110 #[.string s, .string ⟨#[c]⟩] w fun e w' => CutR s c e ∧ Kept (fun _ => False) w w' := by
  have hsl : s.data.toList.length = s.size := rfl
  have hI := fun W => sh_stringslite_Index_one s c W
  rcases byte_index c s.data.toList with ⟨h1, h2⟩ | ⟨i, h1, hi, h2⟩
  · rw [h1] at hI
    have HF := Lib.hid (show cut c s.data.toList = (s.data.toList, (⟨#[]⟩ : ByteArray).data.toList, false) from h2)
    clear h1 h2 hsl
    go_enter Tryz.func110, Tryz.ntmps110
    go_wp2_with (first | (go_at_call 113; with_reducible refine (hI _).mono ?_; rintro e w1 ⟨rfl, rfl⟩) | fail)
    go_returns
    exact ⟨⟨_, _, _, rfl, HF.out, Nat.le_refl _, Nat.zero_le _⟩, by first | exact Kept.refl _ _ | exact (Kept.refl _ _).drewN _⟩
  · rw [h1] at hI
    rw [hsl] at hi
    have HF := Lib.hid (show cut c s.data.toList = ((s.extract 0 i).data.toList, (s.extract (i + 1) s.size).data.toList, true) by
      rw [extract_list, extract_list, h2]
      have hd : (s.data.toList.drop (i + 1)).take (s.size - (i + 1)) = s.data.toList.drop (i + 1) := List.take_of_length_le (by rw [List.length_drop, hsl]; omega)
      simp [hd])
    have hi1 : (i : Int) + 1 ≤ (s.size : Int) := by omega
    have hi0 : (0 : Int) ≤ (i : Int) := by omega
    have hi2 : (i : Int) ≤ (s.size : Int) := by omega
    have hi3 : (0 : Int) ≤ (i : Int) + 1 := by omega
    have hwm : IntKind.i64.wrap ((i : Int) + 1) = (i : Int) + 1 := IntWalk.i64_in _ ⟨by omega, by omega⟩
    have hz1 : (⟨#[c]⟩ : ByteArray).size = 1 := rfl
    clear h1 h2 hsl
    go_enter Tryz.func110, Tryz.ntmps110
    go_wp2_with (first | (go_at_call 113; with_reducible refine (hI _).mono ?_; rintro e w1 ⟨rfl, rfl⟩) | fail)
    go_quiet (fail)
    go_wp2_with fail
    go_returns
    exact ⟨⟨_, _, _, rfl, HF.out, by rw [ByteArray.size_extract]; omega, by rw [ByteArray.size_extract]; omega⟩, (Kept.refl _ _).drewN _⟩
set_option maxRecDepth 100000 in
theorem scut_walk (s : ByteArray) (c : UInt8) (w : World) (hs : s.size ≤ 1000000) :
    Calls Tryz.prog 106 #[.string s, .string ⟨#[c]⟩] w fun e w' => CutR s c e ∧ Kept (fun _ => False) w w' := by
  have hC := fun W => litecut_walk s c W hs
  go_enter Tryz.func106, Tryz.ntmps106
  go_wp2_with (go_at_call 110; refine (hC _).mono ?_; rintro e w1 ⟨⟨x, y, z, rfl, hc, hx, hy⟩, hk⟩; have HC := Lib.hid hc; clear hc)
  go_returns
  exact ⟨⟨x, y, z, rfl, HC.out, hx, hy⟩, hk⟩
end Go.Proofs.YtoebokgpdkklmaaGreatDoor

namespace Go.Proofs.YtoebokgpdkklmaaGreatDoor
open Go.Shelf
def sh_lays119_ren : Go.Shelf.Ren := ⟨fun | 119 => 95 | n => n, fun | 21 => 21 | 4 => 4 | n => n, fun | n => n⟩
theorem sh_lays119 : Go.Proofs.Lays.n119 Tryz.prog sh_lays119_ren := {
  mixed := by kernel_rfl
  f119 := Tryz.func95.trans (congrArg some (by kernel_rfl))
  t4 := Tryz.underlying4
  a4 := Tryz.isAgg4
  z4 := Tryz.sizeOf4
  v4 := Tryz.zeroValue4
  t21 := Tryz.underlying21
  a21 := Tryz.isAgg21
  z21 := Tryz.sizeOf21
  v21 := Tryz.zeroValue21 }
theorem sh_utf8_ValidRune (r : Int) (w : World) :
    Calls Tryz.prog 95 #[.int .i32 r] w fun e w' => e = .returned (.bool (Lib.validRune r)) ∧ w' = w := Any.utf8_ValidRune sh_lays119 r w
def sh_lays99_ren : Go.Shelf.Ren := ⟨fun | 99 => 70 | 206 => 83 | n => n, fun | 9 => 9 | 4 => 4 | 3 => 3 | n => n, fun | n => n⟩
theorem sh_lays99 : Go.Proofs.Lays.n99 Tryz.prog sh_lays99_ren := {
  mixed := by kernel_rfl
  f99 := Tryz.func70.trans (congrArg some (by kernel_rfl))
  f206 := Tryz.func83.trans (congrArg some (by kernel_rfl))
  t3 := Tryz.underlying3
  a3 := Tryz.isAgg3
  z3 := Tryz.sizeOf3
  v3 := Tryz.zeroValue3
  t4 := Tryz.underlying4
  a4 := Tryz.isAgg4
  z4 := Tryz.sizeOf4
  v4 := Tryz.zeroValue4
  t9 := Tryz.underlying9
  a9 := Tryz.isAgg9
  z9 := Tryz.sizeOf9
  v9 := Tryz.zeroValue9 }
open Go.RowKit Go.Lib in
theorem sh_strings_HasPrefix (s p : ByteArray) (w : World) :
    Calls Tryz.prog 70 #[.string s, .string p] w fun e w' => e = .returned (.bool (Lib.hasPrefix s.data.toList p.data.toList)) ∧ w' = w := Any.strings_HasPrefix sh_lays99 s p w
def sh_lays152_ren : Go.Shelf.Ren := ⟨fun | 152 => 88 | 137 => 89 | 119 => 95 | 224 => 96 | 225 => 97 | 217 => 98 | 266 => 105 | n => n, fun | 9 => 9 | 21 => 21 | 3 => 3 | 4 => 4 | 5 => 5 | 0 => 0 | 46 => 130 | n => n, fun | n => n⟩
theorem sh_lays152 : Go.Proofs.Lays.n152 Tryz.prog sh_lays152_ren := {
  mixed := by kernel_rfl
  f119 := Tryz.func95.trans (congrArg some (by kernel_rfl))
  f137 := Tryz.func89.trans (congrArg some (by kernel_rfl))
  f152 := Tryz.func88.trans (congrArg some (by kernel_rfl))
  f217 := Tryz.func98.trans (congrArg some (by kernel_rfl))
  f224 := Tryz.func96.trans (congrArg some (by kernel_rfl))
  f225 := Tryz.func97.trans (congrArg some (by kernel_rfl))
  f266 := Tryz.func105.trans (congrArg some (by kernel_rfl))
  t0 := Tryz.underlying0
  a0 := Tryz.isAgg0
  z0 := Tryz.sizeOf0
  v0 := Tryz.zeroValue0
  t3 := Tryz.underlying3
  a3 := Tryz.isAgg3
  z3 := Tryz.sizeOf3
  v3 := Tryz.zeroValue3
  t4 := Tryz.underlying4
  a4 := Tryz.isAgg4
  z4 := Tryz.sizeOf4
  v4 := Tryz.zeroValue4
  t5 := Tryz.underlying5
  a5 := Tryz.isAgg5
  z5 := Tryz.sizeOf5
  v5 := Tryz.zeroValue5
  t9 := Tryz.underlying9
  a9 := Tryz.isAgg9
  z9 := Tryz.sizeOf9
  v9 := Tryz.zeroValue9
  t21 := Tryz.underlying21
  a21 := Tryz.isAgg21
  z21 := Tryz.sizeOf21
  v21 := Tryz.zeroValue21
  t46 := Tryz.underlying130
  a46 := Tryz.isAgg130
  z46 := Tryz.sizeOf130
  v46 := Tryz.zeroValue130 }
open Go.RowKit Go.Lib in
theorem sh_strings_IndexRune_ascii (s : ByteArray) (r : Int) (w : World) (h0 : 0 ≤ r) (h1 : r < 128) :
    Calls Tryz.prog 88 #[.string s, .int .i32 r] w fun e w' => e = .returned (.int .i64 (Lib.indexByte s.data.toList r.toNat.toUInt8)) ∧ w' = w := Any.strings_IndexRune_ascii sh_lays152 s r w h0 h1
open Go.RowKit Go.Lib
theorem string_info : (Tryz.prog.info? 9).map (fun i => (i.zero, i.size, i.bytes)) = some (some (.string ByteArray.empty), 1, 16) := by kernel_rfl
end Go.Proofs.YtoebokgpdkklmaaGreatDoor
