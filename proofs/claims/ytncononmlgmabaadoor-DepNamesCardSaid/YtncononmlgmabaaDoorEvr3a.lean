/-
  The walks over the program's own text of layer 3: which bytes, texts, EVRs may be. Conditions: as each theorem states.
-/
import Derived.Test.YtncononmlgmabaaDoorRef03
import Derived.Test.YtncononmlgmabaaDoorRef03b
import Derived.Test.YtncononmlgmabaaDoorMathText03
import Derived.Test.YtncononmlgmabaaDoorIndex3
namespace Go.Proofs.YtncononmlgmabaaDoor
open Go.RowKit Ver Evr

set_option maxRecDepth 100000 in
theorem mayByte_walk (b : UInt8) (w : World) :
    Calls Tryd.prog 55 #[.int .u8 (b.toNat : Int)] w fun e w' => e = .returned (.bool (okB b)) ∧ w = w' := by
  have hb : b.toNat < 256 := UInt8.toNat_lt b
  by_cases c3 : (97 ≤ b.toNat ∧ b.toNat ≤ 122) ∨ (65 ≤ b.toNat ∧ b.toNat ≤ 90) ∨ (48 ≤ b.toNat ∧ b.toNat ≤ 57)
  · have fin := Lib.hid (show okB b = true by unfold okB; simp; omega)
    rcases c3 with ⟨a1, a2⟩ | ⟨a1, a2⟩ | ⟨a1, a2⟩
    all_goals
      go_enter Tryd.func55, Tryd.ntmps55
      go_wp2_with fail
      go_ret
      exact ⟨by rw [fin.out]; rfl, rfl⟩
  · have hI := fun W => index_sign b W
    have h1 := sign_index b
    have fin := Lib.hid (show okB b = decide (0 ≤ Lib.indexByte [46, 95, 43, 126, 94] b) by
      rw [h1]
      unfold okB
      have e1 : decide (97 ≤ b.toNat ∧ b.toNat ≤ 122) = false := by simp; omega
      have e2 : decide (65 ≤ b.toNat ∧ b.toNat ≤ 90) = false := by simp; omega
      have e3 : decide (48 ≤ b.toNat ∧ b.toNat ≤ 57) = false := by simp; omega
      rw [e1, e2, e3]
      simp)
    have hc : b.toNat < 48 ∨ (57 < b.toNat ∧ b.toNat < 65) ∨ (90 < b.toNat ∧ b.toNat < 97) ∨ 122 < b.toNat := by omega
    generalize Lib.indexByte [46, 95, 43, 126, 94] b = ix at *
    clear h1 c3
    rcases hc with hc | ⟨hc, hd⟩ | ⟨hc, hd⟩ | hc
    all_goals
      go_enter Tryd.func55, Tryd.ntmps55
      go_wp2_with (first | (go_at_call 65; with_reducible refine (hI _).mono ?_; rintro e w1 ⟨rfl, rfl⟩) | fail)
      go_ret
      exact ⟨by rw [fin.out]; rfl, rfl⟩

theorem word_empty : wordE [] = false := rfl
theorem word_long {s : List UInt8} (h : 64 < s.length) : wordE s = false := by
  unfold wordE
  rw [show decide (s.length ≤ 64) = false by simp; omega]
  simp
theorem word_all {s : List UInt8} (h1 : 1 ≤ s.length) (h2 : s.length ≤ 64) (h : s.all okB = true) : wordE s = true := by
  unfold wordE
  rw [h]
  simp [h1, h2]
set_option maxRecDepth 100000 in
set_option maxHeartbeats 1000000 in
theorem mayText_walk (s : ByteArray) (w : World) :
    Calls Tryd.prog 37 #[.string s] w fun e w' => e = .returned (.bool (wordE s.data.toList)) ∧ w = w' := by
  by_cases h0 : s = ⟨#[]⟩
  · subst h0
    go_enter Tryd.func37, Tryd.ntmps37
    go_wp2_with fail
    go_ret
    exact ⟨rfl, rfl⟩
  · obtain ⟨b1, b2⟩ := text_ne h0
    have hsl : s.data.toList.length = s.size := rfl
    have hs1 : 1 ≤ s.size := by
      rcases Nat.eq_zero_or_pos s.size with h | h
      · exact absurd (empty_text.1 (List.eq_nil_of_length_eq_zero (by rw [hsl]; exact h))) h0
      · exact h
    clear h0
    by_cases h1 : 64 < s.size
    · have HN := Lib.hid (@word_long s.data.toList (by rw [hsl]; exact h1))
      have h1' : (64 : Int) < (s.size : Int) := by omega
      clear hsl
      go_enter Tryd.func37, Tryd.ntmps37
      go_wp2_with fail
      go_ret
      exact ⟨by rw [HN.out]; rfl, rfl⟩
    · have h1' : ¬ (64 : Int) < (s.size : Int) := by omega
      have HY := Lib.hid (fun h => @word_all s.data.toList (by rw [hsl]; exact hs1) (by rw [hsl]; omega) h)
      have HSL := Lib.hid hsl
      clear hsl
      go_enter Tryd.func37, Tryd.ntmps37
      go_wp2_with fail
      go_loop [13] (fun v => ∃ i : Nat, v = .int .i64 (i : Int) ∧ i ≤ s.size ∧ (s.data.toList.take i).all okB = true) (fun v => s.size - (intOf v).toNat)
      case atStart => exact ⟨0, rfl, Nat.zero_le _, rfl⟩
      case round =>
        obtain ⟨i, rfl, hi, ha⟩ := hrel
        have HA := Lib.hid ha
        clear ha
        by_cases hlt : i < s.size
        · obtain ⟨c, hc⟩ : ∃ c, c = s[i] := ⟨_, rfl⟩
          have HCL := Lib.hid (char_at hlt hc)
          have hc' : s[i] = c := hc.symm
          have hM := fun W => mayByte_walk c W
          clear hc
          cases hok : okB c with
          | true =>
            rw [hok] at hM
            have HOK := Lib.hid hok
            clear hok
            go_wp2_with (first | (go_at_call 55; with_reducible refine (hM _).mono ?_; rintro e w1 ⟨rfl, rfl⟩) | fail)
            go_round
            case rel => exact ⟨i + 1, by go_num, by omega, take_ok HA.out HCL.out HOK.out⟩
            case measure => simp [intOf]; omega
          | false =>
            rw [hok] at hM
            have HN := Lib.hid (word_not HCL.out hok)
            clear hok
            go_wp2_with (first | (go_at_call 55; with_reducible refine (hM _).mono ?_; rintro e w1 ⟨rfl, rfl⟩) | fail)
            go_ret
            exact ⟨by rw [HN.out]; rfl, rfl⟩
        · obtain rfl : i = s.size := by omega
          have HF := Lib.hid (HY.out (by have := HA.out; rwa [List.take_of_length_le (by rw [HSL.out]; exact Nat.le_refl _)] at this))
          go_wp2_with fail
          go_ret
          exact ⟨by rw [HF.out]; rfl, rfl⟩

set_option maxRecDepth 100000 in
set_option maxHeartbeats 1000000 in
theorem mayK_walk (n : Int) (v r : ByteArray) (dep : Bool) (w : World) :
    Calls Tryd.prog 23 #[.agg #[.int .i64 n, .string v, .string r], .bool dep] w fun e w' => e = .returned (.bool (mayE (evrE n v r) dep)) ∧ Kept (fun _ => False) w w' := by
  have W1 := fun w => mayText_walk v w
  have W2 := fun w => mayText_walk r w
  by_cases h0 : n < 0
  · have HN := Lib.hid (@may_low n v r dep (.inl h0))
    have g0 : decide (n < 0) = true := by simp [h0]
    clear h0
    go_enter Tryd.func23, Tryd.ntmps23
    go_wp2_with fail
    go_ret
    exact ⟨by rw [HN.out]; rfl, (Kept.refl _ _).alloc _⟩
  · by_cases h1 : 2147483647 < n
    · have HN := Lib.hid (@may_low n v r dep (.inr h1))
      have g0 : decide (n < 0) = false := by simp; omega
      have g1 : decide (2147483647 < n) = true := by simp [h1]
      clear h1 h0
      go_enter Tryd.func23, Tryd.ntmps23
      go_wp2_with fail
      go_ret
      exact ⟨by rw [HN.out]; rfl, (Kept.refl _ _).alloc _⟩
    · have g0 : decide (n < 0) = false := by simp; omega
      have g1 : decide (2147483647 < n) = false := by simp; omega
      by_cases hw : wordE v.data.toList = true
      · by_cases hr0 : r = ⟨#[]⟩
        · subst hr0
          have HN := Lib.hid (@may_dep n v dep (by omega) (by omega) hw)
          rw [hw] at W1
          rw [show wordE (⟨#[]⟩ : ByteArray).data.toList = false from rfl] at W2
          clear h1 h0 hw
          cases dep
          all_goals
            go_enter Tryd.func23, Tryd.ntmps23
            go_wp2_with (first | (go_at_call 37; (first | (with_reducible refine (W1 _).mono ?_) | (with_reducible refine (W2 _).mono ?_)); rintro e w1 ⟨rfl, rfl⟩) | fail)
            go_ret
            exact ⟨by rw [HN.out]; rfl, (Kept.refl _ _).alloc _⟩
        · have HN := Lib.hid (@may_rel n v r dep (by omega) (by omega) hw hr0)
          obtain ⟨b1, b2⟩ := text_ne hr0
          rw [hw] at W1
          clear h1 h0 hw hr0
          generalize wordE r.data.toList = wr at W2 HN
          cases wr
          all_goals
            cases dep
            all_goals
              go_enter Tryd.func23, Tryd.ntmps23
              go_wp2_with (first | (go_at_call 37; (first | (with_reducible refine (W1 _).mono ?_) | (with_reducible refine (W2 _).mono ?_)); rintro e w1 ⟨rfl, rfl⟩) | fail)
              go_ret
              exact ⟨by rw [HN.out]; rfl, (Kept.refl _ _).alloc _⟩
      · have hw' : wordE v.data.toList = false := by simpa using hw
        have HN := Lib.hid (@may_ver n v r dep hw')
        rw [hw'] at W1
        clear h1 h0 hw hw'
        go_enter Tryd.func23, Tryd.ntmps23
        go_wp2_with (first | (go_at_call 37; with_reducible refine (W1 _).mono ?_; rintro e w1 ⟨rfl, rfl⟩) | fail)
        go_ret
        exact ⟨by rw [HN.out]; rfl, (Kept.refl _ _).alloc _⟩
end Go.Proofs.YtncononmlgmabaaDoor
