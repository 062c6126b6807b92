/-
  The walks over the document's answer for layer 6: which names may be. Conditions: as each theorem states.
-/
import Derived.Test.YtncononmlgmabaaDoorName6
namespace Go.Proofs.YtncononmlgmabaaDoor
open Go.RowKit Ver Evr Dep

set_option maxRecDepth 100000 in
set_option maxHeartbeats 1000000 in
theorem sign6_walk (b : UInt8) (w : World) :
    Calls Tryd.prog 31 #[.int .u8 (b.toNat : Int)] w fun e w' => e = .returned (.bool (signD b)) ∧ w' = w := by
  have hb : b.toNat < 256 := UInt8.toNat_lt b
  by_cases c3 : (97 ≤ b.toNat ∧ b.toNat ≤ 122) ∨ (65 ≤ b.toNat ∧ b.toNat ≤ 90) ∨ (48 ≤ b.toNat ∧ b.toNat ≤ 57)
  · have fin := Lib.hid (show signD b = true by unfold signD okB; simp; omega)
    rcases c3 with ⟨a1, a2⟩ | ⟨a1, a2⟩ | ⟨a1, a2⟩
    all_goals
      go_enter Tryd.func31, Tryd.ntmps31
      go_wp2_with fail
      go_ret
      exact ⟨by rw [fin.out]; rfl, rfl⟩
  · have fin := Lib.hid (show signD b = (((b.toNat : Int) == 46) || ((b.toNat : Int) == 95) || ((b.toNat : Int) == 43) || ((b.toNat : Int) == 45) || ((b.toNat : Int) == 47) || ((b.toNat : Int) == 58) || ((b.toNat : Int) == 64) || ((b.toNat : Int) == 126) || ((b.toNat : Int) == 94)) by
      rw [Bool.eq_iff_iff]
      unfold signD okB
      simp
      omega)
    have hc : b.toNat < 48 ∨ (57 < b.toNat ∧ b.toNat < 65) ∨ (90 < b.toNat ∧ b.toNat < 97) ∨ 122 < b.toNat := by omega
    clear c3
    generalize hz : (b.toNat : Int) = z at fin
    rcases hc with hc | ⟨hc, hd⟩ | ⟨hc, hd⟩ | hc
    all_goals
      go_enter Tryd.func31, Tryd.ntmps31
      go_wp2_with fail
      all_goals go_ret
      all_goals refine ⟨?_, rfl⟩
      all_goals rw [fin.out]
      all_goals show Ending.returned (Value.bool _) = Ending.returned (Value.bool _)
      all_goals refine congrArg (fun x => Ending.returned (Value.bool x)) ?_
      all_goals simp_all
theorem no_lits (s : ByteArray) : noNames.contains s.data.toList = ((s.toList == [97, 110, 100]) || (s.toList == [111, 114]) || (s.toList == [105, 102]) || (s.toList == [101, 108, 115, 101]) || (s.toList == [117, 110, 108, 101, 115, 115]) || (s.toList == [119, 105, 116, 104]) || (s.toList == [119, 105, 116, 104, 111, 117, 116])) := by
  simp only [ByteArray.toList_eq, noNames, List.contains_cons, List.contains_nil, Bool.or_false, Bool.or_assoc]
set_option maxRecDepth 100000 in
set_option maxHeartbeats 2000000 in
theorem name6_walk (s : ByteArray) (w : World) :
    Calls Tryd.prog 15 #[.string s] w fun e w' => e = .returned (.bool (nameD s.data.toList)) ∧ w' = w := by
  have hsl : s.data.toList.length = s.size := rfl
  by_cases h0 : s.size < 1
  · have HN := Lib.hid (show nameD s.data.toList = false by rw [List.eq_nil_of_length_eq_zero (by rw [hsl]; omega : s.data.toList.length = 0)]; rfl)
    have hs1' : (s.size : Int) < 1 := by omega
    clear hsl h0
    go_enter Tryd.func15, Tryd.ntmps15
    go_wp2_with fail
    go_ret
    exact ⟨by rw [HN.out]; rfl, rfl⟩
  · have hs1 : 1 ≤ s.size := by omega
    have hs1' : ¬ (s.size : Int) < 1 := by omega
    clear h0
    by_cases h1 : 64 < s.size
    · have HN := Lib.hid (@name_long s.data.toList (by rw [hsl]; exact h1))
      have h1' : (64 : Int) < (s.size : Int) := by omega
      clear hsl
      go_enter Tryd.func15, Tryd.ntmps15
      go_wp2_with fail
      go_ret
      exact ⟨by rw [HN.out]; rfl, rfl⟩
    · have h1' : ¬ (64 : Int) < (s.size : Int) := by omega
      have HY := Lib.hid (fun h hw => @name_all s.data.toList (by rw [hsl]; exact hs1) (by rw [hsl]; omega) h hw)
      have HW := Lib.hid (@name_word s.data.toList)
      have HC := Lib.hid (no_lits s)
      have HSL := Lib.hid hsl
      clear hsl
      generalize hq0 : (s.toList == [97, 110, 100]) = q0 at HC
      generalize hq1 : (s.toList == [111, 114]) = q1 at HC
      generalize hq2 : (s.toList == [105, 102]) = q2 at HC
      generalize hq3 : (s.toList == [101, 108, 115, 101]) = q3 at HC
      generalize hq4 : (s.toList == [117, 110, 108, 101, 115, 115]) = q4 at HC
      generalize hq5 : (s.toList == [119, 105, 116, 104]) = q5 at HC
      generalize hq6 : (s.toList == [119, 105, 116, 104, 111, 117, 116]) = q6 at HC
      cases q0 with
      | true =>
        go_enter Tryd.func15, Tryd.ntmps15
        go_wp2_with fail
        go_ret
        exact ⟨by rw [HW.out (by rw [HC.out]; simp)]; rfl, rfl⟩
      | false =>
        cases q1 with
        | true =>
          go_enter Tryd.func15, Tryd.ntmps15
          go_wp2_with fail
          go_ret
          exact ⟨by rw [HW.out (by rw [HC.out]; simp)]; rfl, rfl⟩
        | false =>
          cases q2 with
          | true =>
            go_enter Tryd.func15, Tryd.ntmps15
            go_wp2_with fail
            go_ret
            exact ⟨by rw [HW.out (by rw [HC.out]; simp)]; rfl, rfl⟩
          | false =>
            cases q3 with
            | true =>
              go_enter Tryd.func15, Tryd.ntmps15
              go_wp2_with fail
              go_ret
              exact ⟨by rw [HW.out (by rw [HC.out]; simp)]; rfl, rfl⟩
            | false =>
              cases q4 with
              | true =>
                go_enter Tryd.func15, Tryd.ntmps15
                go_wp2_with fail
                go_ret
                exact ⟨by rw [HW.out (by rw [HC.out]; simp)]; rfl, rfl⟩
              | false =>
                cases q5 with
                | true =>
                  go_enter Tryd.func15, Tryd.ntmps15
                  go_wp2_with fail
                  go_ret
                  exact ⟨by rw [HW.out (by rw [HC.out]; simp)]; rfl, rfl⟩
                | false =>
                  cases q6 with
                  | true =>
                    go_enter Tryd.func15, Tryd.ntmps15
                    go_wp2_with fail
                    go_ret
                    exact ⟨by rw [HW.out (by rw [HC.out]; simp)]; rfl, rfl⟩
                  | false =>
                    have HNO := Lib.hid (show noNames.contains s.data.toList = false by rw [HC.out]; rfl)
                    clear HC HW
                    go_enter Tryd.func15, Tryd.ntmps15
                    go_wp2_with fail
                    go_loop [3] (fun v => ∃ i : Nat, v = .int .i64 (i : Int) ∧ i ≤ s.size ∧ Hid ((s.data.toList.take i).all signD = true)) (fun v => s.size - (intOf v).toNat)
                    case atStart => exact ⟨0, rfl, Nat.zero_le _, Lib.hid rfl⟩
                    case round =>
                      obtain ⟨i, rfl, hi, HA⟩ := hrel
                      by_cases hlt : i < s.size
                      · obtain ⟨c, hc⟩ : ∃ c, c = s[i] := ⟨_, rfl⟩
                        have HCL := Lib.hid (char_at hlt hc)
                        have hc' : s[i] = c := hc.symm
                        have hM := fun W => sign6_walk c W
                        clear hc
                        cases hok : signD c with
                        | true =>
                          rw [hok] at hM
                          have HOK := Lib.hid hok
                          clear hok
                          go_wp2_with (first | (go_at_call 31; with_reducible refine (hM _).mono ?_; rintro e w1 ⟨rfl, rfl⟩) | fail)
                          go_round
                          case rel => exact ⟨i + 1, by go_num, by omega, Lib.hid (take_sign HA.out HCL.out HOK.out)⟩
                          case measure => simp [intOf]; omega
                        | false =>
                          rw [hok] at hM
                          have HN := Lib.hid (name_not HCL.out hok)
                          clear hok
                          go_wp2_with (first | (go_at_call 31; with_reducible refine (hM _).mono ?_; rintro e w1 ⟨rfl, rfl⟩) | fail)
                          go_ret
                          exact ⟨by rw [HN.out]; rfl, rfl⟩
                      · obtain rfl : i = s.size := by omega
                        have HF := Lib.hid (HY.out (by have := HA.out; rwa [List.take_of_length_le (by rw [HSL.out]; exact Nat.le_refl _)] at this) HNO.out)
                        go_wp2_with fail
                        go_ret
                        exact ⟨by rw [HF.out]; rfl, rfl⟩
theorem file6_walk (s : ByteArray) (w : World) :
    Calls Tryd.prog 46 #[.string s] w fun e w' => e = .returned (.bool (fileD s.data.toList)) ∧ w' = w := by
  have hN := name6_walk s w
  cases hx : nameD s.data.toList with
  | false =>
    rw [hx] at hN
    have HF := Lib.hid (show fileD s.data.toList = false by unfold fileD; rw [hx]; rfl)
    clear hx
    go_enter Tryd.func46, Tryd.ntmps46
    go_wp2_with (go_at_call 15; with_reducible refine hN.mono ?_; rintro e w1 ⟨rfl, rfl⟩)
    go_ret
    exact ⟨by rw [HF.out]; rfl, rfl⟩
  | true =>
    rw [hx] at hN
    have h1 : 0 < s.size := (name_parts hx).1
    obtain ⟨c, hc⟩ : ∃ c, c = s[0] := ⟨_, rfl⟩
    have hcl := char_at h1 hc
    have hc' : s[0] = c := hc.symm
    have HF := Lib.hid (show fileD s.data.toList = ((c.toNat : Int) == 47) by
      unfold fileD
      rw [hx, List.head?_eq_getElem?, hcl, Bool.true_and, Bool.eq_iff_iff]
      simp only [beq_iff_eq, Option.some.injEq]
      constructor
      · intro h; rw [h]; rfl
      · intro h; exact UInt8.toNat_inj.1 (by have : c.toNat = 47 := by omega
                                             rw [this]; rfl))
    clear hx hc hcl
    go_enter Tryd.func46, Tryd.ntmps46
    go_wp2_with (first | (go_at_call 15; with_reducible refine hN.mono ?_; rintro e w1 ⟨rfl, rfl⟩) | fail)
    go_ret
    exact ⟨by rw [HF.out]; rfl, rfl⟩
end Go.Proofs.YtncononmlgmabaaDoor
