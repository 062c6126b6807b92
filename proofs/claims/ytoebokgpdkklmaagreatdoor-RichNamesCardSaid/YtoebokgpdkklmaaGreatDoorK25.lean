/-
  The walks over the program's own text of layer 7: a byte's kind, what a text begins with. Conditions: as each theorem states.
-/
import Derived.Test.YtoebokgpdkklmaaGreatDoorK24
import Derived.Test.YtoebokgpdkklmaaGreatDoorK15
import Derived.Test.YtoebokgpdkklmaaGreatDoorRows
import Derived.LoopN
import Derived.Deep.QuietTactic
namespace Go.Proofs.YtoebokgpdkklmaaGreatDoor
open Go.RowKit Lex

/-- The program's number of a byte's kind. -/
def kp (b : UInt8) : Nat := (kind b + 1) % 4
set_option maxRecDepth 100000 in
set_option maxHeartbeats 1000000 in
theorem lkind_walk (b : UInt8) (w : World) : Calls Tryz.prog 42 #[.int .u8 (b.toNat : Int)] w fun e w' => e = .returned (.int .u8 (kp b : Int)) ∧ w' = w := by
  by_cases h32 : b.toNat = 32
  · have HF := Lib.hid (show kp b = 1 by unfold kp kind; simp [h32])
    have e1 : ((b.toNat : Int) == 32) = true := by simp; omega
    clear h32
    go_enter Tryz.func42, Tryz.ntmps42
    go_wp2_with fail
    go_ret
    exact ⟨by rw [HF.out]; rfl, rfl⟩
  · have e1 : ((b.toNat : Int) == 32) = false := by simp; omega
    by_cases h40 : b.toNat = 40
    · have HF := Lib.hid (show kp b = 2 by unfold kp kind; simp [h40])
      have e2 : ((b.toNat : Int) == 40) = true := by simp; omega
      clear h32 h40
      go_enter Tryz.func42, Tryz.ntmps42
      go_wp2_with fail
      go_ret
      exact ⟨by rw [HF.out]; rfl, rfl⟩
    · have e2 : ((b.toNat : Int) == 40) = false := by simp; omega
      by_cases h41 : b.toNat = 41
      · have HF := Lib.hid (show kp b = 2 by unfold kp kind; simp [h41])
        have e3 : ((b.toNat : Int) == 41) = true := by simp; omega
        clear h32 h40 h41
        go_enter Tryz.func42, Tryz.ntmps42
        go_wp2_with fail
        go_ret
        exact ⟨by rw [HF.out]; rfl, rfl⟩
      · have e3 : ((b.toNat : Int) == 41) = false := by simp; omega
        by_cases h33 : 33 ≤ b.toNat
        · by_cases h126 : b.toNat ≤ 126
          · have HF := Lib.hid (show kp b = 3 by unfold kp kind; simp [h32, h40, h41, h33, h126])
            have g1 : (33 : Int) ≤ (b.toNat : Int) := by omega
            have g2 : (b.toNat : Int) ≤ 126 := by omega
            clear h32 h40 h41 h33 h126
            go_enter Tryz.func42, Tryz.ntmps42
            go_wp2_with fail
            go_ret
            exact ⟨by rw [HF.out]; rfl, rfl⟩
          · have HF := Lib.hid (show kp b = 0 by unfold kp kind; simp [h32, h40, h41, h126])
            have g1 : (33 : Int) ≤ (b.toNat : Int) := by omega
            have g2 : ¬ (b.toNat : Int) ≤ 126 := by omega
            clear h32 h40 h41 h33 h126
            go_enter Tryz.func42, Tryz.ntmps42
            go_wp2_with fail
            go_ret
            exact ⟨by rw [HF.out]; rfl, rfl⟩
        · have HF := Lib.hid (show kp b = 0 by unfold kp kind; simp [h32, h40, h41, h33])
          have g1 : ¬ (33 : Int) ≤ (b.toNat : Int) := by omega
          clear h32 h40 h41 h33
          go_enter Tryz.func42, Tryz.ntmps42
          go_wp2_with fail
          go_ret
          exact ⟨by rw [HF.out]; rfl, rfl⟩
theorem kp_three {b : UInt8} : kp b = 3 ↔ kind b = 2 := by unfold kp; have := kind_le b; omega
theorem kp_one {b : UInt8} : kp b = 1 ↔ kind b = 0 := by unfold kp; have := kind_le b; omega
theorem kp_zero {b : UInt8} : kp b = 0 ↔ kind b = 3 := by unfold kp; have := kind_le b; omega
theorem k2_iff {b : UInt8} : k2 b = true ↔ kind b = 2 := by unfold k2; simp
theorem take_at : ∀ {l : List UInt8} {m : Nat} {c : UInt8}, m < (l.takeWhile k2).length → l[m]? = some c → kind c = 2
  | [], _, _, h, _ => by simp at h
  | b :: l, m, c, h, hc => by
    by_cases hb : k2 b = true
    · cases m with
      | zero => simp at hc; subst hc; exact k2_iff.1 hb
      | succ m =>
        rw [List.takeWhile_cons_of_pos hb] at h
        exact take_at (l := l) (by simpa using h) (by simpa using hc)
    · rw [List.takeWhile_cons_of_neg hb] at h
      simp at h
theorem take_end : ∀ {l : List UInt8} {c : UInt8}, l[(l.takeWhile k2).length]? = some c → kind c ≠ 2
  | [], _, h => by simp at h
  | b :: l, c, hc => by
    by_cases hb : k2 b = true
    · rw [List.takeWhile_cons_of_pos hb] at hc
      exact take_end (l := l) (by simpa using hc)
    · rw [List.takeWhile_cons_of_neg hb] at hc
      simp at hc
      subst hc
      intro h
      exact hb (k2_iff.2 h)
/-- What a text that is not empty begins with. -/
theorem tok_take (b : UInt8) (l : List UInt8) : (b :: l).take (max ((b :: l).takeWhile k2).length 1) = b :: hd7 b l := by
  unfold hd7
  by_cases h : kind b = 2
  · rw [if_pos h, List.takeWhile_cons_of_pos (k2_iff.2 h), List.length_cons, show max ((l.takeWhile k2).length + 1) 1 = (l.takeWhile k2).length + 1 by omega, List.take_succ_cons]
    congr 1
    have : ∀ l : List UInt8, l.take (l.takeWhile k2).length = l.takeWhile k2 := by
      intro l
      induction l with
      | nil => rfl
      | cons c l ih =>
        by_cases hc : k2 c = true
        · rw [List.takeWhile_cons_of_pos hc, List.length_cons, List.take_succ_cons, ih]
        · rw [List.takeWhile_cons_of_neg hc]; rfl
    exact this l
  · rw [if_neg h, List.takeWhile_cons_of_neg (fun e => h (k2_iff.1 e))]
    rfl
set_option maxRecDepth 100000 in
set_option maxHeartbeats 1000000 in
theorem lfirst_walk (s : ByteArray) (b : UInt8) (l : List UInt8) (hsl : s.data.toList = b :: l) (w : World) (hs : s.size ≤ 1000000) :
    Calls Tryz.prog 59 #[.string s] w fun e w' => e = .returned (.string ⟨(b :: hd7 b l).toArray⟩) ∧ w' = w := by
  obtain ⟨T, hT⟩ : ∃ T, T = (s.data.toList.takeWhile k2).length := ⟨_, rfl⟩
  have hsz : s.data.toList.length = s.size := rfl
  have hle : T ≤ s.size := by
    have := (List.takeWhile_sublist (l := s.data.toList) k2).length_le
    omega
  have hpos : 1 ≤ s.size := by rw [← hsz, hsl]; simp
  have hat : ∀ m (hm : m < s.size) (c : UInt8), m < T → c = s[m] → kind c = 2 := fun m hm c h1 h2 => take_at (l := s.data.toList) (by omega) (char_at hm h2)
  have hend : ∀ (hm : T < s.size) (c : UInt8), c = s[T] → kind c ≠ 2 := fun hm c h2 => take_end (l := s.data.toList) (by rw [← hT]; exact char_at hm h2)
  obtain ⟨u, hu⟩ : ∃ u, u = s.extract 0 (max T 1) := ⟨_, rfl⟩
  have hF : u = ⟨(b :: hd7 b l).toArray⟩ := by
    have hTk := tok_take b l
    rw [hu, extract_list]
    show (⟨((s.data.toList.drop 0).take _).toArray⟩ : ByteArray) = _
    rw [Nat.sub_zero, List.drop_zero, hsl, hT, hsl, hTk]
  have HF := Lib.hid hF
  have HA := Lib.hid hat
  have HE := Lib.hid hend
  have HU := Lib.hid hu
  clear hT hsz hF hat hend hsl hu
  go_enter Tryz.func59, Tryz.ntmps59
  go_wp2_with fail
  go_loopw [3] (fun v wr => ∃ m : Nat, v = .int .i64 (m : Int) ∧ m ≤ T ∧ Hid (w = wr)) (fun v _ => s.size - (intOf v).toNat)
  case atStart => exact ⟨0, rfl, Nat.zero_le _, Lib.hid rfl⟩
  case round =>
    obtain ⟨m, rfl, hmT, HW⟩ := hrel
    have hwr := HW.out
    subst hwr
    by_cases hms : m < s.size
    · obtain ⟨c, hc⟩ : ∃ c, c = s[m] := ⟨_, rfl⟩
      by_cases hmR : m < T
      · have hkc := kp_three.2 (HA.out m hms c hmR hc)
        have hkw := fun W => lkind_walk c W
        rw [hkc] at hkw
        have hc' : s[m] = c := hc.symm
        clear hc hkc
        go_wp2_with (go_at_call 42; refine (hkw _).mono ?_; rintro e w' ⟨rfl, hww⟩; have hwx := Eq.symm hww; clear hww; subst hwx)
        go_roundw
        case rel => exact ⟨m + 1, by go_num, by omega, by first | exact Lib.hid trivial | exact Lib.hid rfl⟩
        case measure => simp [intOf]; omega
      · have hmT' : m = T := by omega
        subst hmT'
        have hkc : kp c ≠ 3 := fun h => HE.out hms c hc (kp_three.1 h)
        have hc' : s[m] = c := hc.symm
        clear hc
        have hkb : ((kp c : Int) == 3) = false := by simp; omega
        have hx : s.extract 0 (max m 1) = u := HU.out.symm
        rcases Nat.eq_zero_or_pos m with h0 | h0
        · subst h0
          have hx1 : s.extract 0 1 = u := hx
          have hm01 : max (0 : Int) 1 = 1 := by omega
          clear hx
          go_wp2_with (go_at_call 42; refine (lkind_walk c _).mono ?_; rintro e w' ⟨rfl, hww⟩; have hwx := Eq.symm hww; clear hww; subst hwx)
          go_ret
          exact ⟨by rw [← HF.out]; rfl, rfl⟩
        · have hm1 : max m 1 = m := by omega
          rw [hm1] at hx
          have hmx : max (m : Int) 1 = (m : Int) := by omega
          have hmI : (1 : Int) ≤ (m : Int) := by omega
          go_wp2_with (go_at_call 42; refine (lkind_walk c _).mono ?_; rintro e w' ⟨rfl, hww⟩; have hwx := Eq.symm hww; clear hww; subst hwx)
          go_ret
          exact ⟨by rw [← HF.out]; rfl, rfl⟩
    · have hmT' : m = T := by omega
      subst hmT'
      have hms' : m = s.size := by omega
      have hx : s.extract 0 (max m 1) = u := HU.out.symm
      have hm1 : max m 1 = m := by omega
      rw [hm1] at hx
      have HUS := Lib.hid (show u = s by rw [← hx, hms']; exact ByteArray.extract_zero_size)
      clear hx
      have hmx : max (m : Int) 1 = (m : Int) := by omega
      have hmz : max (s.size : Int) 1 = (s.size : Int) := by omega
      have hmI : (1 : Int) ≤ (m : Int) := by omega
      go_wp2_with fail
      go_ret
      exact ⟨by rw [← HF.out, HUS.out]; rfl, rfl⟩
end Go.Proofs.YtoebokgpdkklmaaGreatDoor
