/-
  The walks over the document's answer for layer 3. Plain facts on EVRs as the program has them. Nothing of the program is named here. The walks over the document's answer for layer 3. Plain facts on EVRs and their texts as the program reads them: the digits, a cut, a number, what stands where. Nothing of the program is named here. strings.IndexByte among the signs of a version, and strings.Cut around one byte, whatever the library's variables hold. Contracts of the library that the program's dep asks, out of the shelf: ValidRune, HasPrefix, IndexRune. Nothing of the program is named here. Conditions: as each theorem states.
-/
import Derived.Test.YtndakcognjaeoaaDoorK01
import Derived.Test.YtndakcognjaeoaaDoorK04
import Derived.Test.YtndakcognjaeoaaDoorRows
import Derived.Deep.CutRange
import Derived.Deep.CutBlock
import Derived.Handy
import Derived.Lib.Hide
import Derived.Deep.QuietTactic
import Derived.BigQuiet
import Derived.Lib.ItoaNum
import Derived.Lib.IndexMore
import Derived.Lib.Bytealg
import Derived.Lib.AtoiAll
import Derived.Lib.AtoiAllCases
import Derived.Shelf.Small.Strs
import Derived.Shelf.Strings.Search2
import Derived.WalkKit
import Derived.Shelf.Strings.Search3
import Derived.Shelf.Strings.Prefix
import Derived.Shelf.Strings.Runes
import Derived.Shelf.Small.Utf8
import Derived.Lib.IndexBytes
namespace Go.Proofs.YtndakcognjaeoaaDoor
open Go.RowKit Ver Evr

theorem take_ok {s : List UInt8} {i : Nat} {c : UInt8} (h : (s.take i).all okB = true) (hc : s[i]? = some c) (hok : okB c = true) : (s.take (i + 1)).all okB = true := by
  rw [List.take_add_one, hc, List.all_append, h]
  simp [hok]
theorem word_not {s : List UInt8} {i : Nat} {c : UInt8} (hc : s[i]? = some c) (hok : okB c = false) : wordE s = false := by
  unfold wordE
  have : s.all okB = false := by
    rw [List.all_eq_false]
    exact ⟨c, List.mem_of_getElem? hc, by simp [hok]⟩
  rw [this]
  rfl

set_option maxRecDepth 100000 in
set_option maxHeartbeats 1000000 in
theorem word_walk (s : ByteArray) (w : World) (hs : s.size ≤ 1000000) :
    Calls Tryd.prog 104 #[.string s] w fun e w' => e = .returned (.bool (wordE s.data.toList)) ∧ w' = w := by
  have hsl : s.data.toList.length = s.size := rfl
  have HSL := Lib.hid hsl
  clear hsl
  go_enter Tryd.func104, Tryd.ntmps104
  go_wp2_with fail
  go_loop [3] (fun v3 => ∃ i : Nat, v3 = .int .i64 (i : Int) ∧ i ≤ s.size ∧ (s.data.toList.take i).all okB = true) (fun v3 => s.size - (intOf v3).toNat)
  case atStart => exact ⟨0, rfl, Nat.zero_le _, rfl⟩
  case round =>
    obtain ⟨i, rfl, hi, ha⟩ := hrel
    have HA := Lib.hid ha
    clear ha
    by_cases hlt : i < s.size
    · obtain ⟨c, hc⟩ : ∃ c, c = s[i] := ⟨_, rfl⟩
      have HCL := Lib.hid (char_at hlt hc)
      have hc' : s[i] = c := hc.symm
      have hc256 : c.toNat < 256 := UInt8.toNat_lt c
      clear hc
      rcases (show (c.toNat < 48 ∧ c.toNat ≠ 46 ∧ c.toNat ≠ 43) ∨ (c.toNat = 46) ∨ (c.toNat = 43) ∨ (48 ≤ c.toNat ∧ c.toNat ≤ 57) ∨ (58 ≤ c.toNat ∧ c.toNat ≤ 64) ∨ (65 ≤ c.toNat ∧ c.toNat ≤ 90) ∨ (91 ≤ c.toNat ∧ c.toNat ≤ 96 ∧ c.toNat ≠ 95 ∧ c.toNat ≠ 94) ∨ (c.toNat = 95) ∨ (c.toNat = 94) ∨ (97 ≤ c.toNat ∧ c.toNat ≤ 122) ∨ (123 ≤ c.toNat ∧ c.toNat ≠ 126) ∨ (c.toNat = 126) by omega) with hcase | hcase | hcase | hcase | hcase | hcase | hcase | hcase | hcase | hcase | hcase | hcase
      · have hc := hcase
        have e46 : ((c.toNat : Int) != 46) = true := by simp; omega
        have e95 : ((c.toNat : Int) != 95) = true := by simp; omega
        have e43 : ((c.toNat : Int) != 43) = true := by simp; omega
        have e126 : ((c.toNat : Int) != 126) = true := by simp; omega
        have e94 : ((c.toNat : Int) != 94) = true := by simp; omega
        have g97 : decide ((97 : Int) ≤ (c.toNat : Int)) = false := by simp; omega
        have g65 : decide ((65 : Int) ≤ (c.toNat : Int)) = false := by simp; omega
        have g48 : decide ((48 : Int) ≤ (c.toNat : Int)) = false := by simp; omega
        have g122 : decide ((c.toNat : Int) ≤ 122) = true := by simp; omega
        have g90 : decide ((c.toNat : Int) ≤ 90) = true := by simp; omega
        have g57 : decide ((c.toNat : Int) ≤ 57) = true := by simp; omega
        have hok : okB c = false := by unfold okB; simp; omega
        obtain ⟨q0, q1, q2⟩ := hcase
        clear hc
        have HN := Lib.hid (word_not HCL.out hok)
        go_wp2_with fail
        all_goals
          go_ret
          exact ⟨by rw [HN.out]; rfl, rfl⟩
      · have hc := hcase
        have e46 : ((c.toNat : Int) != 46) = false := by simp; omega
        have e95 : ((c.toNat : Int) != 95) = true := by simp; omega
        have e43 : ((c.toNat : Int) != 43) = true := by simp; omega
        have e126 : ((c.toNat : Int) != 126) = true := by simp; omega
        have e94 : ((c.toNat : Int) != 94) = true := by simp; omega
        have g97 : decide ((97 : Int) ≤ (c.toNat : Int)) = false := by simp; omega
        have g65 : decide ((65 : Int) ≤ (c.toNat : Int)) = false := by simp; omega
        have g48 : decide ((48 : Int) ≤ (c.toNat : Int)) = false := by simp; omega
        have g122 : decide ((c.toNat : Int) ≤ 122) = true := by simp; omega
        have g90 : decide ((c.toNat : Int) ≤ 90) = true := by simp; omega
        have g57 : decide ((c.toNat : Int) ≤ 57) = true := by simp; omega
        have hok : okB c = true := by unfold okB; simp; omega
        clear hc
        have HT := Lib.hid (take_ok HA.out HCL.out hok)
        go_wp2_with fail
        all_goals
          go_round
          case rel => exact ⟨i + 1, by go_num, by omega, HT.out⟩
          case measure => simp [intOf]; omega
      · have hc := hcase
        have e46 : ((c.toNat : Int) != 46) = true := by simp; omega
        have e95 : ((c.toNat : Int) != 95) = true := by simp; omega
        have e43 : ((c.toNat : Int) != 43) = false := by simp; omega
        have e126 : ((c.toNat : Int) != 126) = true := by simp; omega
        have e94 : ((c.toNat : Int) != 94) = true := by simp; omega
        have g97 : decide ((97 : Int) ≤ (c.toNat : Int)) = false := by simp; omega
        have g65 : decide ((65 : Int) ≤ (c.toNat : Int)) = false := by simp; omega
        have g48 : decide ((48 : Int) ≤ (c.toNat : Int)) = false := by simp; omega
        have g122 : decide ((c.toNat : Int) ≤ 122) = true := by simp; omega
        have g90 : decide ((c.toNat : Int) ≤ 90) = true := by simp; omega
        have g57 : decide ((c.toNat : Int) ≤ 57) = true := by simp; omega
        have hok : okB c = true := by unfold okB; simp; omega
        clear hc
        have HT := Lib.hid (take_ok HA.out HCL.out hok)
        go_wp2_with fail
        all_goals
          go_round
          case rel => exact ⟨i + 1, by go_num, by omega, HT.out⟩
          case measure => simp [intOf]; omega
      · have hc := hcase
        have e46 : ((c.toNat : Int) != 46) = true := by simp; omega
        have e95 : ((c.toNat : Int) != 95) = true := by simp; omega
        have e43 : ((c.toNat : Int) != 43) = true := by simp; omega
        have e126 : ((c.toNat : Int) != 126) = true := by simp; omega
        have e94 : ((c.toNat : Int) != 94) = true := by simp; omega
        have g97 : decide ((97 : Int) ≤ (c.toNat : Int)) = false := by simp; omega
        have g65 : decide ((65 : Int) ≤ (c.toNat : Int)) = false := by simp; omega
        have g48 : decide ((48 : Int) ≤ (c.toNat : Int)) = true := by simp; omega
        have g122 : decide ((c.toNat : Int) ≤ 122) = true := by simp; omega
        have g90 : decide ((c.toNat : Int) ≤ 90) = true := by simp; omega
        have g57 : decide ((c.toNat : Int) ≤ 57) = true := by simp; omega
        have hok : okB c = true := by unfold okB; simp; omega
        obtain ⟨q0, q1⟩ := hcase
        clear hc
        have HT := Lib.hid (take_ok HA.out HCL.out hok)
        go_wp2_with fail
        all_goals
          go_round
          case rel => exact ⟨i + 1, by go_num, by omega, HT.out⟩
          case measure => simp [intOf]; omega
      · have hc := hcase
        have e46 : ((c.toNat : Int) != 46) = true := by simp; omega
        have e95 : ((c.toNat : Int) != 95) = true := by simp; omega
        have e43 : ((c.toNat : Int) != 43) = true := by simp; omega
        have e126 : ((c.toNat : Int) != 126) = true := by simp; omega
        have e94 : ((c.toNat : Int) != 94) = true := by simp; omega
        have g97 : decide ((97 : Int) ≤ (c.toNat : Int)) = false := by simp; omega
        have g65 : decide ((65 : Int) ≤ (c.toNat : Int)) = false := by simp; omega
        have g48 : decide ((48 : Int) ≤ (c.toNat : Int)) = true := by simp; omega
        have g122 : decide ((c.toNat : Int) ≤ 122) = true := by simp; omega
        have g90 : decide ((c.toNat : Int) ≤ 90) = true := by simp; omega
        have g57 : decide ((c.toNat : Int) ≤ 57) = false := by simp; omega
        have hok : okB c = false := by unfold okB; simp; omega
        obtain ⟨q0, q1⟩ := hcase
        clear hc
        have HN := Lib.hid (word_not HCL.out hok)
        go_wp2_with fail
        all_goals
          go_ret
          exact ⟨by rw [HN.out]; rfl, rfl⟩
      · have hc := hcase
        have e46 : ((c.toNat : Int) != 46) = true := by simp; omega
        have e95 : ((c.toNat : Int) != 95) = true := by simp; omega
        have e43 : ((c.toNat : Int) != 43) = true := by simp; omega
        have e126 : ((c.toNat : Int) != 126) = true := by simp; omega
        have e94 : ((c.toNat : Int) != 94) = true := by simp; omega
        have g97 : decide ((97 : Int) ≤ (c.toNat : Int)) = false := by simp; omega
        have g65 : decide ((65 : Int) ≤ (c.toNat : Int)) = true := by simp; omega
        have g48 : decide ((48 : Int) ≤ (c.toNat : Int)) = true := by simp; omega
        have g122 : decide ((c.toNat : Int) ≤ 122) = true := by simp; omega
        have g90 : decide ((c.toNat : Int) ≤ 90) = true := by simp; omega
        have g57 : decide ((c.toNat : Int) ≤ 57) = false := by simp; omega
        have hok : okB c = true := by unfold okB; simp; omega
        obtain ⟨q0, q1⟩ := hcase
        clear hc
        have HT := Lib.hid (take_ok HA.out HCL.out hok)
        go_wp2_with fail
        all_goals
          go_round
          case rel => exact ⟨i + 1, by go_num, by omega, HT.out⟩
          case measure => simp [intOf]; omega
      · have hc := hcase
        have e46 : ((c.toNat : Int) != 46) = true := by simp; omega
        have e95 : ((c.toNat : Int) != 95) = true := by simp; omega
        have e43 : ((c.toNat : Int) != 43) = true := by simp; omega
        have e126 : ((c.toNat : Int) != 126) = true := by simp; omega
        have e94 : ((c.toNat : Int) != 94) = true := by simp; omega
        have g97 : decide ((97 : Int) ≤ (c.toNat : Int)) = false := by simp; omega
        have g65 : decide ((65 : Int) ≤ (c.toNat : Int)) = true := by simp; omega
        have g48 : decide ((48 : Int) ≤ (c.toNat : Int)) = true := by simp; omega
        have g122 : decide ((c.toNat : Int) ≤ 122) = true := by simp; omega
        have g90 : decide ((c.toNat : Int) ≤ 90) = false := by simp; omega
        have g57 : decide ((c.toNat : Int) ≤ 57) = false := by simp; omega
        have hok : okB c = false := by unfold okB; simp; omega
        obtain ⟨q0, q1, q2, q3⟩ := hcase
        clear hc
        have HN := Lib.hid (word_not HCL.out hok)
        go_wp2_with fail
        all_goals
          go_ret
          exact ⟨by rw [HN.out]; rfl, rfl⟩
      · have hc := hcase
        have e46 : ((c.toNat : Int) != 46) = true := by simp; omega
        have e95 : ((c.toNat : Int) != 95) = false := by simp; omega
        have e43 : ((c.toNat : Int) != 43) = true := by simp; omega
        have e126 : ((c.toNat : Int) != 126) = true := by simp; omega
        have e94 : ((c.toNat : Int) != 94) = true := by simp; omega
        have g97 : decide ((97 : Int) ≤ (c.toNat : Int)) = false := by simp; omega
        have g65 : decide ((65 : Int) ≤ (c.toNat : Int)) = true := by simp; omega
        have g48 : decide ((48 : Int) ≤ (c.toNat : Int)) = true := by simp; omega
        have g122 : decide ((c.toNat : Int) ≤ 122) = true := by simp; omega
        have g90 : decide ((c.toNat : Int) ≤ 90) = false := by simp; omega
        have g57 : decide ((c.toNat : Int) ≤ 57) = false := by simp; omega
        have hok : okB c = true := by unfold okB; simp; omega
        clear hc
        have HT := Lib.hid (take_ok HA.out HCL.out hok)
        go_wp2_with fail
        all_goals
          go_round
          case rel => exact ⟨i + 1, by go_num, by omega, HT.out⟩
          case measure => simp [intOf]; omega
      · have hc := hcase
        have e46 : ((c.toNat : Int) != 46) = true := by simp; omega
        have e95 : ((c.toNat : Int) != 95) = true := by simp; omega
        have e43 : ((c.toNat : Int) != 43) = true := by simp; omega
        have e126 : ((c.toNat : Int) != 126) = true := by simp; omega
        have e94 : ((c.toNat : Int) != 94) = false := by simp; omega
        have g97 : decide ((97 : Int) ≤ (c.toNat : Int)) = false := by simp; omega
        have g65 : decide ((65 : Int) ≤ (c.toNat : Int)) = true := by simp; omega
        have g48 : decide ((48 : Int) ≤ (c.toNat : Int)) = true := by simp; omega
        have g122 : decide ((c.toNat : Int) ≤ 122) = true := by simp; omega
        have g90 : decide ((c.toNat : Int) ≤ 90) = false := by simp; omega
        have g57 : decide ((c.toNat : Int) ≤ 57) = false := by simp; omega
        have hok : okB c = true := by unfold okB; simp; omega
        clear hc
        have HT := Lib.hid (take_ok HA.out HCL.out hok)
        go_wp2_with fail
        all_goals
          go_round
          case rel => exact ⟨i + 1, by go_num, by omega, HT.out⟩
          case measure => simp [intOf]; omega
      · have hc := hcase
        have e46 : ((c.toNat : Int) != 46) = true := by simp; omega
        have e95 : ((c.toNat : Int) != 95) = true := by simp; omega
        have e43 : ((c.toNat : Int) != 43) = true := by simp; omega
        have e126 : ((c.toNat : Int) != 126) = true := by simp; omega
        have e94 : ((c.toNat : Int) != 94) = true := by simp; omega
        have g97 : decide ((97 : Int) ≤ (c.toNat : Int)) = true := by simp; omega
        have g65 : decide ((65 : Int) ≤ (c.toNat : Int)) = true := by simp; omega
        have g48 : decide ((48 : Int) ≤ (c.toNat : Int)) = true := by simp; omega
        have g122 : decide ((c.toNat : Int) ≤ 122) = true := by simp; omega
        have g90 : decide ((c.toNat : Int) ≤ 90) = false := by simp; omega
        have g57 : decide ((c.toNat : Int) ≤ 57) = false := by simp; omega
        have hok : okB c = true := by unfold okB; simp; omega
        obtain ⟨q0, q1⟩ := hcase
        clear hc
        have HT := Lib.hid (take_ok HA.out HCL.out hok)
        go_wp2_with fail
        all_goals
          go_round
          case rel => exact ⟨i + 1, by go_num, by omega, HT.out⟩
          case measure => simp [intOf]; omega
      · have hc := hcase
        have e46 : ((c.toNat : Int) != 46) = true := by simp; omega
        have e95 : ((c.toNat : Int) != 95) = true := by simp; omega
        have e43 : ((c.toNat : Int) != 43) = true := by simp; omega
        have e126 : ((c.toNat : Int) != 126) = true := by simp; omega
        have e94 : ((c.toNat : Int) != 94) = true := by simp; omega
        have g97 : decide ((97 : Int) ≤ (c.toNat : Int)) = true := by simp; omega
        have g65 : decide ((65 : Int) ≤ (c.toNat : Int)) = true := by simp; omega
        have g48 : decide ((48 : Int) ≤ (c.toNat : Int)) = true := by simp; omega
        have g122 : decide ((c.toNat : Int) ≤ 122) = false := by simp; omega
        have g90 : decide ((c.toNat : Int) ≤ 90) = false := by simp; omega
        have g57 : decide ((c.toNat : Int) ≤ 57) = false := by simp; omega
        have hok : okB c = false := by unfold okB; simp; omega
        obtain ⟨q0, q1⟩ := hcase
        clear hc
        have HN := Lib.hid (word_not HCL.out hok)
        go_wp2_with fail
        all_goals
          go_ret
          exact ⟨by rw [HN.out]; rfl, rfl⟩
      · have hc := hcase
        have e46 : ((c.toNat : Int) != 46) = true := by simp; omega
        have e95 : ((c.toNat : Int) != 95) = true := by simp; omega
        have e43 : ((c.toNat : Int) != 43) = true := by simp; omega
        have e126 : ((c.toNat : Int) != 126) = false := by simp; omega
        have e94 : ((c.toNat : Int) != 94) = true := by simp; omega
        have g97 : decide ((97 : Int) ≤ (c.toNat : Int)) = true := by simp; omega
        have g65 : decide ((65 : Int) ≤ (c.toNat : Int)) = true := by simp; omega
        have g48 : decide ((48 : Int) ≤ (c.toNat : Int)) = true := by simp; omega
        have g122 : decide ((c.toNat : Int) ≤ 122) = false := by simp; omega
        have g90 : decide ((c.toNat : Int) ≤ 90) = false := by simp; omega
        have g57 : decide ((c.toNat : Int) ≤ 57) = false := by simp; omega
        have hok : okB c = true := by unfold okB; simp; omega
        clear hc
        have HT := Lib.hid (take_ok HA.out HCL.out hok)
        go_wp2_with fail
        all_goals
          go_round
          case rel => exact ⟨i + 1, by go_num, by omega, HT.out⟩
          case measure => simp [intOf]; omega
    · have e : i = s.size := by omega
      have HF := Lib.hid (show wordE s.data.toList = (decide (1 ≤ s.size) && decide (s.size ≤ 64)) by
        unfold wordE
        have h := HA.out
        rw [e, ← HSL.out, List.take_length] at h
        rw [h, HSL.out]
        simp)
      by_cases h1 : 1 ≤ s.size
      · by_cases h2 : s.size ≤ 64
        · have g1 : decide ((1 : Int) ≤ (s.size : Int)) = true := by simp; omega
          have g2 : decide ((s.size : Int) ≤ 64) = true := by simp; omega
          have HG := Lib.hid (show (decide (1 ≤ s.size) && decide (s.size ≤ 64)) = true by simp [h1, h2])
          go_wp2_with fail
          go_ret
          exact ⟨by rw [HF.out, HG.out]; rfl, rfl⟩
        · have g1 : decide ((1 : Int) ≤ (s.size : Int)) = true := by simp; omega
          have g2 : decide ((s.size : Int) ≤ 64) = false := by simp; omega
          have HG := Lib.hid (show (decide (1 ≤ s.size) && decide (s.size ≤ 64)) = false by simp [h2])
          go_wp2_with fail
          go_ret
          exact ⟨by rw [HF.out, HG.out]; rfl, rfl⟩
      · have g1 : decide ((1 : Int) ≤ (s.size : Int)) = false := by simp; omega
        have HG := Lib.hid (show (decide (1 ≤ s.size) && decide (s.size ≤ 64)) = false by simp [h1])
        go_wp2_with fail
        go_ret
        exact ⟨by rw [HF.out, HG.out]; rfl, rfl⟩
end Go.Proofs.YtndakcognjaeoaaDoor

namespace Go.Proofs.YtndakcognjaeoaaDoor
open Go.RowKit Ver Evr

def evrE (n : Int) (v r : ByteArray) : E := ⟨n, v.data.toList, r.data.toList⟩
/-- An EVR as a struct. -/
def evrV (n : Int) (v r : ByteArray) : Value := .agg #[.int .i64 n, .string v, .string r]
theorem empty_text {r : ByteArray} : r.data.toList = [] ↔ r = ⟨#[]⟩ := by
  constructor
  · intro h
    cases r with
    | mk d =>
      have : d = #[] := by cases d; simp_all
      rw [this]
  · intro h; rw [h]
theorem text_ne {r : ByteArray} (h : r ≠ ⟨#[]⟩) : (r.toList == []) = false ∧ ¬ r.toList = [] := by
  have : ¬ r.toList = [] := by rw [ByteArray.toList_eq]; exact fun e => h (empty_text.1 e)
  exact ⟨beq_eq_false_iff_ne.2 this, this⟩
end Go.Proofs.YtndakcognjaeoaaDoor

namespace Go.Proofs.YtndakcognjaeoaaDoor
open Go.RowKit Ver Evr

/-- An EVR. -/
theorem may_low {n : Int} {v r : ByteArray} {dep : Bool} (h : n < 0 ∨ 2147483647 < n) : mayE (evrE n v r) dep = false := by
  unfold mayE evrE
  rcases h with h | h
  · simp [show ¬ 0 ≤ n by omega]
  · simp [show ¬ n ≤ 2147483647 by omega]
theorem may_ver {n : Int} {v r : ByteArray} {dep : Bool} (h : wordE v.data.toList = false) : mayE (evrE n v r) dep = false := by unfold mayE evrE; simp [h]
theorem may_dep {n : Int} {v : ByteArray} {dep : Bool} (h0 : 0 ≤ n) (h1 : n ≤ 2147483647) (h : wordE v.data.toList = true) : mayE (evrE n v ⟨#[]⟩) dep = dep := by unfold mayE evrE; simp [h, h0, h1]
theorem may_rel {n : Int} {v r : ByteArray} {dep : Bool} (h0 : 0 ≤ n) (h1 : n ≤ 2147483647) (h : wordE v.data.toList = true) (hr : r ≠ ⟨#[]⟩) : mayE (evrE n v r) dep = wordE r.data.toList := by
  unfold mayE evrE
  simp only [h, h0, h1, decide_true, Bool.true_and, if_neg (fun e => hr (empty_text.1 e))]

set_option maxRecDepth 100000 in
set_option maxHeartbeats 1000000 in
theorem may_walk (n : Int) (v r : ByteArray) (dep : Bool) (w : World) (hv : v.size ≤ 1000000) (hr : r.size ≤ 1000000) :
    Calls Tryd.prog 91 #[evrV n v r, .bool dep] w fun e w' => e = .returned (.bool (mayE (evrE n v r) dep)) ∧ Kept (fun _ => False) w w' := by
  unfold evrV
  have W1 := fun w => word_walk v w hv
  have W2 := fun w => word_walk r w hr
  by_cases h0 : n < 0
  · have HN := Lib.hid (@may_low n v r dep (.inl h0))
    have g0 : decide (n < 0) = true := by simp [h0]
    clear h0
    go_enter Tryd.func91, Tryd.ntmps91
    go_wp2_with fail
    go_ret
    exact ⟨by rw [HN.out]; rfl, (Kept.refl _ _).alloc _⟩
  · by_cases h1 : 2147483647 < n
    · have HN := Lib.hid (@may_low n v r dep (.inr h1))
      have g0 : decide (n < 0) = false := by simp; omega
      have g1 : decide (2147483647 < n) = true := by simp [h1]
      clear h1 h0
      go_enter Tryd.func91, Tryd.ntmps91
      go_wp2_with fail
      go_ret
      exact ⟨by rw [HN.out]; rfl, (Kept.refl _ _).alloc _⟩
    · have g0 : decide (n < 0) = false := by simp; omega
      have g1 : decide (2147483647 < n) = false := by simp; omega
      by_cases hw : wordE v.data.toList = true
      · by_cases hr0 : r = ⟨#[]⟩
        · subst hr0
          have HN := Lib.hid (@may_dep n v dep (by omega) (by omega) hw)
          rw [hw] at W1
          clear h1 h0 hw
          go_enter Tryd.func91, Tryd.ntmps91
          go_wp2_with (first | (go_at_call 104; with_reducible refine (W1 _).mono ?_; rintro e w1 ⟨rfl, rfl⟩) | fail)
          go_ret
          exact ⟨by rw [HN.out]; rfl, (Kept.refl _ _).alloc _⟩
        · have HN := Lib.hid (@may_rel n v r dep (by omega) (by omega) hw hr0)
          obtain ⟨b1, b2⟩ := text_ne hr0
          rw [hw] at W1
          clear h1 h0 hw hr0
          go_enter Tryd.func91, Tryd.ntmps91
          go_wp2_with (first | (go_at_call 104; (first | (with_reducible refine (W1 _).mono ?_) | (with_reducible refine (W2 _).mono ?_)); rintro e w1 ⟨rfl, rfl⟩) | fail)
          go_ret
          exact ⟨by rw [HN.out]; rfl, (Kept.refl _ _).alloc _⟩
      · have hw' : wordE v.data.toList = false := by simpa using hw
        have HN := Lib.hid (@may_ver n v r dep hw')
        rw [hw'] at W1
        clear h1 h0 hw hw'
        go_enter Tryd.func91, Tryd.ntmps91
        go_wp2_with (first | (go_at_call 104; with_reducible refine (W1 _).mono ?_; rintro e w1 ⟨rfl, rfl⟩) | fail)
        go_ret
        exact ⟨by rw [HN.out]; rfl, (Kept.refl _ _).alloc _⟩

/-- What cut answers. -/
def CutR (s : ByteArray) (c : UInt8) (e : Ending) : Prop := ∃ x y z, e = .returned (.tuple #[.string x, .string y, .bool z]) ∧ cut c s.data.toList = (x.data.toList, y.data.toList, z) ∧ x.size ≤ s.size ∧ y.size ≤ s.size
theorem cut_step {c b : UInt8} {x y : List UInt8} (hx : ∀ z ∈ x, z ≠ c) (h : b = c) : cut c (x ++ b :: y) = (x, y, true) := by rw [h]; exact cut_at c x y hx
end Go.Proofs.YtndakcognjaeoaaDoor

namespace Go.Proofs.YtndakcognjaeoaaDoor
namespace Evr
open Ver

theorem dec_digits : ∀ n, Lib.decDigits n = digits n := by
  intro n
  induction n using Nat.strongRecOn with
  | _ n ih =>
    by_cases h : n < 10
    · rw [Lib.decDigits, dif_pos h, digits_small h]
      unfold dig
      rw [Nat.mod_eq_of_lt h]
    · rw [Lib.decDigits, dif_neg h, digits_big h, ih (n / 10) (by omega)]
      rfl
theorem itoa_digits {n : Int} (h : 0 < n) : Lib.itoa n = digits n.toNat := by
  unfold Lib.itoa
  rw [if_neg (by omega), dec_digits]
theorem index_one (c : UInt8) : ∀ l : List UInt8, (Lib.index l [c] = -1 ∧ cut c l = (l, [], false)) ∨ ∃ i : Nat, Lib.index l [c] = i ∧ cut c l = (l.take i, l.drop (i + 1), true)
  | [] => .inl ⟨rfl, rfl⟩
  | b :: l => by
    rw [cut, Lib.index]
    by_cases h : b = c
    · subst h
      exact .inr ⟨0, by simp, by simp⟩
    · rw [if_neg h]
      have h1 : ([c].isPrefixOf (b :: l)) = false := by
        have h2 : (c == b) = false := by simp; exact fun e => h e.symm
        simp [List.isPrefixOf, h2]
      rw [h1]
      rcases index_one c l with ⟨h2, h3⟩ | ⟨i, h2, h3⟩
      · rw [h2, h3]; exact .inl ⟨rfl, rfl⟩
      · rw [h2, h3]
        refine .inr ⟨i + 1, ?_, by simp⟩
        have h4 : ((i : Int) == -1) = false := by rw [beq_eq_false_iff_ne]; omega
        simp [h4]
theorem lib_cut (c : UInt8) (l : List UInt8) : Lib.cut l [c] = cut c l := by
  unfold Lib.cut
  rcases index_one c l with ⟨h2, h3⟩ | ⟨i, h2, h3⟩
  · rw [h2, h3, if_neg (by omega)]
  · rw [h2, h3, if_pos (by omega)]
    simp
/-- The number that a text reads as: 0 where it is none, the greatest or the least where it is too large. -/
def numV (l : List UInt8) : Int := match Lib.atoiAll l with | .ok v => v | .range => Lib.atoiSat l | _ => 0
theorem uint_val : ∀ (l : List UInt8) (acc : Nat), l.all isDig = true → (∀ k, k ≤ l.length → acc * 10 ^ k < 1844674407370955162 ∨ k = l.length) → l.foldl (fun n b => n * 10 + (b.toNat - 48)) acc < 1844674407370955162 → Lib.parseUint10 acc l = .ok (l.foldl (fun n b => n * 10 + (b.toNat - 48)) acc)
  | [], acc, _, _, _ => rfl
  | b :: l, acc, hd, _, hv => by
    have hd' : isDig b = true ∧ l.all isDig = true := by simpa using hd
    have hb : 48 ≤ b.toNat ∧ b.toNat ≤ 57 := by have := hd'.1; unfold isDig at this; simpa using this
    have mono : ∀ (l : List UInt8) (a : Nat), a ≤ l.foldl (fun n b => n * 10 + (b.toNat - 48)) a := by
      intro l
      induction l with
      | nil => intro a; exact Nat.le_refl _
      | cons c l ih => intro a; exact Nat.le_trans (by omega) (ih (a * 10 + (c.toNat - 48)))
    have hm := mono l (acc * 10 + (b.toNat - 48))
    have hv' : l.foldl (fun n b => n * 10 + (b.toNat - 48)) (acc * 10 + (b.toNat - 48)) < 1844674407370955162 := hv
    rw [Lib.parseUint10, if_pos hb, if_neg (by omega), if_neg (by omega)]
    exact uint_val l _ hd'.2 (fun k hk => by
      by_cases h : k = l.length
      · exact .inr h
      · refine .inl ?_
        have pw : ∀ (l : List UInt8) (a k : Nat), k ≤ l.length → a * 10 ^ k ≤ l.foldl (fun n b => n * 10 + (b.toNat - 48)) a := by
          intro l
          induction l with
          | nil => intro a k hk; have : k = 0 := by simpa using hk
                   subst this; simp
          | cons c l ih =>
            intro a k hk
            cases k with
            | zero => simpa using mono (c :: l) a
            | succ k =>
              have h1 := ih (a * 10 + (c.toNat - 48)) k (by simpa using hk)
              refine Nat.le_trans ?_ h1
              rw [Nat.pow_succ, Nat.mul_comm (10 ^ k) 10, ← Nat.mul_assoc]
              exact Nat.mul_le_mul_right _ (by omega)
        exact Nat.lt_of_le_of_lt (pw l _ k hk) hv') hv'
theorem num_digits {n : Nat} (h : n ≤ 2147483647) : numV (digits n) = n := by
  unfold numV
  have hall := digits_all n
  have hne := digits_ne n
  have hv := digits_val n
  cases hd : digits n with
  | nil => exact absurd hd hne
  | cons b l =>
    rw [hd] at hall hv
    have hb : 48 ≤ b.toNat ∧ b.toNat ≤ 57 := by
      have : isDig b = true := by have h2 : isDig b = true ∧ l.all isDig = true := by simpa using hall
                                  exact h2.1
      unfold isDig at this; simpa using this
    have hu : Lib.parseMag (b :: l) = .ok n := by
      have h1 := uint_val (b :: l) 0 hall (fun k _ => .inl (by omega)) (by show val (b :: l) < _; omega)
      unfold Lib.parseMag
      rw [if_neg (by simp), h1]
      show Lib.NumEnd.ok (val (b :: l)) = _
      rw [hv]
    rw [Lib.atoiAll_plain b l (by omega) (by omega), hu]
    have hs : Lib.signless (Lib.NumEnd.ok n) = Lib.NumEnd.ok (n : Int) := by
      unfold Lib.signless
      simp only
      rw [if_neg (by omega)]
    rw [hs]
/-- What stands in a text for an epoch, a version, a release. -/
def splitE (s : List UInt8) : E :=
  if (cut 58 s).2.2 = true then ⟨numV (cut 58 s).1, (cut 45 (cut 58 s).2.1).1, (cut 45 (cut 58 s).2.1).2.1⟩ else ⟨0, (cut 45 s).1, (cut 45 s).2.1⟩
theorem tail_cut {e : E} (h : mayE e true = true) : (cut 45 (e.ver ++ (if e.rel = [] then [] else 45 :: e.rel))).1 = e.ver ∧ (cut 45 (e.ver ++ (if e.rel = [] then [] else 45 :: e.rel))).2.1 = e.rel := by
  obtain ⟨_, _, h3, _⟩ := may_parts h
  have hv : ∀ b ∈ e.ver, b ≠ 45 := fun b hb => (ok_not ((word_ok h3).1 b hb)).2
  by_cases hr : e.rel = []
  · rw [if_pos hr, List.append_nil, cut_no 45 e.ver hv, hr]
    exact ⟨rfl, rfl⟩
  · rw [if_neg hr, cut_at 45 e.ver e.rel hv]
    exact ⟨rfl, rfl⟩
theorem split_show {e : E} (h : mayE e true = true) : splitE (showE e) = e := by
  obtain ⟨h1, h2, h3, h4⟩ := may_parts h
  obtain ⟨t1, t2⟩ := tail_cut h
  unfold showE
  by_cases h0 : 0 < e.epoch
  · rw [if_pos h0]
    have e1 : digits e.epoch.toNat ++ [58] ++ e.ver ++ (if e.rel = [] then [] else 45 :: e.rel) = digits e.epoch.toNat ++ 58 :: (e.ver ++ (if e.rel = [] then [] else 45 :: e.rel)) := by simp
    have hd : ∀ b ∈ digits e.epoch.toNat, b ≠ 58 := fun b hb => dig_not (List.all_eq_true.1 (digits_all _) b hb)
    unfold splitE
    rw [e1, cut_at 58 _ _ hd, if_pos rfl]
    show E.mk (numV (digits e.epoch.toNat)) (cut 45 (e.ver ++ (if e.rel = [] then [] else 45 :: e.rel))).1 (cut 45 (e.ver ++ (if e.rel = [] then [] else 45 :: e.rel))).2.1 = e
    have he : ((e.epoch.toNat : Nat) : Int) = e.epoch := by omega
    rw [t1, t2, num_digits (by omega), he]
  · rw [if_neg h0, List.nil_append]
    have hn : ∀ b ∈ e.ver ++ (if e.rel = [] then [] else 45 :: e.rel), b ≠ 58 := by
      intro b hb
      rcases List.mem_append.1 hb with hb | hb
      · exact (ok_not ((word_ok h3).1 b hb)).1
      · by_cases hr : e.rel = []
        · rw [if_pos hr] at hb; cases hb
        · rw [if_neg hr] at hb
          rcases List.mem_cons.1 hb with rfl | hb
          · decide
          · rcases h4 with h4 | h4
            · exact absurd h4 hr
            · exact (ok_not ((word_ok h4).1 b hb)).1
    unfold splitE
    have he : (0 : Int) = e.epoch := by omega
    rw [cut_no 58 _ hn, if_neg (by simp), t1, t2, he]
theorem parse_split (s : List UInt8) : parseE s = if mayE (splitE s) true = true ∧ showE (splitE s) = s then some (splitE s) else none := by
  by_cases h : mayE (splitE s) true = true ∧ showE (splitE s) = s
  · rw [if_pos h]
    have h1 := parse_show h.1
    rw [h.2] at h1
    exact h1
  · rw [if_neg h]
    cases hp : parseE s with
    | none => rfl
    | some e =>
      obtain ⟨h1, h2⟩ := show_parse hp
      have h3 := split_show h1
      rw [h2] at h3
      exact absurd ⟨by rw [h3]; exact h1, by rw [h3]; exact h2⟩ h
/-- A byte that is no letter and no digit, among the signs. -/
theorem sign_index (b : UInt8) : decide (0 ≤ Lib.indexByte [46, 95, 43, 126, 94] b) = (decide (b.toNat = 46) || decide (b.toNat = 95) || decide (b.toNat = 43) || decide (b.toNat = 126) || decide (b.toNat = 94)) := by
  have key : ((List.range 256).all fun n => decide (0 ≤ Lib.indexByte [46, 95, 43, 126, 94] (UInt8.ofNat n)) == (decide (n = 46) || decide (n = 95) || decide (n = 43) || decide (n = 126) || decide (n = 94))) = true := by kernel_rfl
  have h := List.all_eq_true.1 key b.toNat (List.mem_range.2 (UInt8.toNat_lt b))
  have hb : UInt8.ofNat b.toNat = b := by simp
  rw [hb] at h
  simpa using h
end Evr
end Go.Proofs.YtndakcognjaeoaaDoor

namespace Go.Proofs.YtndakcognjaeoaaDoor
open Go.Shelf
def sh_lays137_ren : Go.Shelf.Ren := ⟨fun | 137 => 106 | 217 => 119 | 266 => 124 | n => n, fun | 9 => 9 | 5 => 5 | 3 => 3 | n => n, fun | n => n⟩
theorem sh_lays137 : Go.Proofs.Lays.n137 Tryd.prog sh_lays137_ren := {
  mixed := by kernel_rfl
  f137 := Tryd.func106.trans (congrArg some (by kernel_rfl))
  f217 := Tryd.func119.trans (congrArg some (by kernel_rfl))
  f266 := Tryd.func124.trans (congrArg some (by kernel_rfl))
  t3 := Tryd.underlying3
  a3 := Tryd.isAgg3
  z3 := Tryd.sizeOf3
  v3 := Tryd.zeroValue3
  t5 := Tryd.underlying5
  a5 := Tryd.isAgg5
  z5 := Tryd.sizeOf5
  v5 := Tryd.zeroValue5
  t9 := Tryd.underlying9
  a9 := Tryd.isAgg9
  z9 := Tryd.sizeOf9
  v9 := Tryd.zeroValue9 }
open Go.RowKit in
theorem sh_strings_IndexByte (s : ByteArray) (c : Int) (w : World) :
    Calls Tryd.prog 106 #[.string s, .int .u8 c] w fun e w' => e = .returned (.int .i64 (Lib.indexByte s.data.toList c.toNat.toUInt8)) ∧ w' = w := Any.strings_IndexByte sh_lays137 s c w
open Go.RowKit Ver Evr
theorem index_sign (b : UInt8) (w : World) :
    Calls Tryd.prog 106 #[.string ⟨#[46, 95, 43, 126, 94]⟩, .int .u8 (b.toNat : Int)] w fun e w' => e = .returned (.int .i64 (Lib.indexByte [46, 95, 43, 126, 94] b)) ∧ w' = w :=
  (sh_strings_IndexByte ⟨#[46, 95, 43, 126, 94]⟩ (b.toNat : Int) w).mono fun e w' ⟨h1, h2⟩ => ⟨by rw [h1]; simp, h2⟩
theorem byte_index (c : UInt8) : ∀ l : List UInt8, (Lib.indexByte l c = -1 ∧ cut c l = (l, [], false)) ∨ ∃ i : Nat, Lib.indexByte l c = i ∧ i < l.length ∧ cut c l = (l.take i, l.drop (i + 1), true)
  | [] => .inl ⟨rfl, rfl⟩
  | b :: l => by
    rw [cut, Lib.indexByte]
    by_cases h : b = c
    · subst h
      exact .inr ⟨0, by simp, by simp, by simp⟩
    · rw [if_neg h]
      have h1 : (b == c) = false := by simp; exact h
      rw [h1]
      rcases byte_index c l with ⟨h2, h3⟩ | ⟨i, h2, hi, h3⟩
      · rw [h2, h3]; exact .inl ⟨rfl, rfl⟩
      · rw [h2, h3]
        refine .inr ⟨i + 1, ?_, by simp; omega, by simp⟩
        have h4 : ((i : Int) == -1) = false := by rw [beq_eq_false_iff_ne]; omega
        simp [h4]
end Go.Proofs.YtndakcognjaeoaaDoor

namespace Go.Proofs.YtndakcognjaeoaaDoor
open Go.Shelf
def sh_lays119_ren : Go.Shelf.Ren := ⟨fun | 119 => 116 | n => n, fun | 21 => 21 | 4 => 4 | n => n, fun | n => n⟩
theorem sh_lays119 : Go.Proofs.Lays.n119 Tryd.prog sh_lays119_ren := {
  mixed := by kernel_rfl
  f119 := Tryd.func116.trans (congrArg some (by kernel_rfl))
  t4 := Tryd.underlying4
  a4 := Tryd.isAgg4
  z4 := Tryd.sizeOf4
  v4 := Tryd.zeroValue4
  t21 := Tryd.underlying21
  a21 := Tryd.isAgg21
  z21 := Tryd.sizeOf21
  v21 := Tryd.zeroValue21 }
theorem sh_utf8_ValidRune (r : Int) (w : World) :
    Calls Tryd.prog 116 #[.int .i32 r] w fun e w' => e = .returned (.bool (Lib.validRune r)) ∧ w' = w := Any.utf8_ValidRune sh_lays119 r w
def sh_lays99_ren : Go.Shelf.Ren := ⟨fun | 99 => 73 | 206 => 93 | n => n, fun | 9 => 9 | 4 => 4 | 3 => 3 | n => n, fun | n => n⟩
theorem sh_lays99 : Go.Proofs.Lays.n99 Tryd.prog sh_lays99_ren := {
  mixed := by kernel_rfl
  f99 := Tryd.func73.trans (congrArg some (by kernel_rfl))
  f206 := Tryd.func93.trans (congrArg some (by kernel_rfl))
  t3 := Tryd.underlying3
  a3 := Tryd.isAgg3
  z3 := Tryd.sizeOf3
  v3 := Tryd.zeroValue3
  t4 := Tryd.underlying4
  a4 := Tryd.isAgg4
  z4 := Tryd.sizeOf4
  v4 := Tryd.zeroValue4
  t9 := Tryd.underlying9
  a9 := Tryd.isAgg9
  z9 := Tryd.sizeOf9
  v9 := Tryd.zeroValue9 }
open Go.RowKit Go.Lib in
theorem sh_strings_HasPrefix (s p : ByteArray) (w : World) :
    Calls Tryd.prog 73 #[.string s, .string p] w fun e w' => e = .returned (.bool (Lib.hasPrefix s.data.toList p.data.toList)) ∧ w' = w := Any.strings_HasPrefix sh_lays99 s p w
def sh_lays152_ren : Go.Shelf.Ren := ⟨fun | 152 => 105 | 137 => 106 | 119 => 116 | 224 => 117 | 225 => 118 | 217 => 119 | 266 => 124 | n => n, fun | 9 => 9 | 21 => 21 | 3 => 3 | 4 => 4 | 5 => 5 | 0 => 0 | 46 => 57 | n => n, fun | n => n⟩
theorem sh_lays152 : Go.Proofs.Lays.n152 Tryd.prog sh_lays152_ren := {
  mixed := by kernel_rfl
  f119 := Tryd.func116.trans (congrArg some (by kernel_rfl))
  f137 := Tryd.func106.trans (congrArg some (by kernel_rfl))
  f152 := Tryd.func105.trans (congrArg some (by kernel_rfl))
  f217 := Tryd.func119.trans (congrArg some (by kernel_rfl))
  f224 := Tryd.func117.trans (congrArg some (by kernel_rfl))
  f225 := Tryd.func118.trans (congrArg some (by kernel_rfl))
  f266 := Tryd.func124.trans (congrArg some (by kernel_rfl))
  t0 := Tryd.underlying0
  a0 := Tryd.isAgg0
  z0 := Tryd.sizeOf0
  v0 := Tryd.zeroValue0
  t3 := Tryd.underlying3
  a3 := Tryd.isAgg3
  z3 := Tryd.sizeOf3
  v3 := Tryd.zeroValue3
  t4 := Tryd.underlying4
  a4 := Tryd.isAgg4
  z4 := Tryd.sizeOf4
  v4 := Tryd.zeroValue4
  t5 := Tryd.underlying5
  a5 := Tryd.isAgg5
  z5 := Tryd.sizeOf5
  v5 := Tryd.zeroValue5
  t9 := Tryd.underlying9
  a9 := Tryd.isAgg9
  z9 := Tryd.sizeOf9
  v9 := Tryd.zeroValue9
  t21 := Tryd.underlying21
  a21 := Tryd.isAgg21
  z21 := Tryd.sizeOf21
  v21 := Tryd.zeroValue21
  t46 := Tryd.underlying57
  a46 := Tryd.isAgg57
  z46 := Tryd.sizeOf57
  v46 := Tryd.zeroValue57 }
open Go.RowKit Go.Lib in
theorem sh_strings_IndexRune_ascii (s : ByteArray) (r : Int) (w : World) (h0 : 0 ≤ r) (h1 : r < 128) :
    Calls Tryd.prog 105 #[.string s, .int .i32 r] w fun e w' => e = .returned (.int .i64 (Lib.indexByte s.data.toList r.toNat.toUInt8)) ∧ w' = w := Any.strings_IndexRune_ascii sh_lays152 s r w h0 h1
open Go.RowKit Go.Lib
theorem string_info : (Tryd.prog.info? 9).map (fun i => (i.zero, i.size, i.bytes)) = some (some (.string ByteArray.empty), 1, 16) := by kernel_rfl
end Go.Proofs.YtndakcognjaeoaaDoor
