/-
  The walk over the law VercmpTells. Conditions: as each theorem states.
-/
import Derived.Test.YtmnmnbpecdofnaaDoorMathLaws02
import Derived.Test.YtmnmnbpecdofnaaDoorAwake02
namespace Go.Proofs.YtmnmnbpecdofnaaDoor
open Go.RowKit Ver

set_option maxRecDepth 100000 in
set_option maxHeartbeats 2000000 in
theorem tells_walk (hP : PartsK) (hC : CompareK) (hS : SortK) (a b : ByteArray) (w : World) (_ha : a.size < 140737488355328) (_hb : b.size < 140737488355328) :
    Calls Tryd.prog 3 #[.string a, .string b] w fun e w' => e = .returned (.bool true) ∧ Kept (fun _ => False) w w' := by
  by_cases h1 : a.size ≤ 2000
  · have n1 : ¬ ((2000 : Int) < (a.size : Int)) := by omega
    by_cases h2 : b.size ≤ 2000
    · have n2 : ¬ ((2000 : Int) < (b.size : Int)) := by omega
      go_enter Tryd.func3, Tryd.ntmps3
      go_wp2_with fail
      refine (hP a _ (by omega)).mono ?_
      rintro e w1 ⟨v1, rfl, hn1, hk1⟩
      go_wp2_with fail
      refine (parts_walk a _ (by omega)).mono ?_
      rintro e w2 ⟨v2, rfl, hn2, hk2⟩
      have hn1 := hn1.kept hk2 (fun _ _ h => h)
      have hk := hk1.trans hk2 (fun _ _ h => h)
      clear hk1 hk2
      have hl : (parts a.data.toList).length ≤ 2000 := by
        have := norm_raw_len a.data.toList
        have e : a.data.toList.length = a.size := rfl
        omega
      generalize hpl : parts a.data.toList = l at hn1 hn2 hl
      clear hpl
      obtain ⟨a1, c1, rfl⟩ := hn1.form
      obtain ⟨a2, c2, rfl⟩ := own_form hn2
      have hne : ((l.length : Int) != (l.length : Int)) = false := by simp
      have H1 := Lib.hid hn1
      have H2 := Lib.hid hn2
      have HK := Lib.hid hk
      clear hn1 hn2 hk
      go_wp2_with fail
      go_loopw [7] (fun v7 wr => ∃ i : Nat, v7 = .int .i64 (i : Int) ∧ i ≤ l.length ∧ Kept (fun _ => False) w2 wr) (fun v7 _ => l.length - (intOf v7).toNat)
      case atStart => exact ⟨0, rfl, Nat.zero_le _, Kept.refl _ _⟩
      case round =>
        obtain ⟨i, rfl, hi, hkr⟩ := hrel
        by_cases hlt : i < l.length
        · obtain ⟨g1, e1, l1, k1, t1⟩ := (H1.out.kept hkr (fun _ _ h => h)).at hlt
          obtain ⟨g2, e2, l2, k2, t2⟩ := own_part (hkr.owns H2.out (fun _ _ h => h)) hlt
          subst e1
          subst e2
          go_wp2_with fail
          go_quiet (fail)
          go_wp2_with fail
          go_roundw
          case rel => exact ⟨i + 1, by go_num, by omega, hkr.drewN _⟩
          case measure => simp [intOf]; omega
        · have e : i = l.length := by omega
          subst e
          have C1 := fun w => hC a b w (by omega) (by omega)
          have C2 := fun w => compare_walk a b w (by omega) (by omega)
          have HR := Lib.hid hkr
          clear hkr
          have hk := Kept.refl (fun _ => False) wr
          have hce : cmpV a.data.toList b.data.toList = cmpB a b := rfl
          simp only [hce] at C2
          go_wp2_with (first
            | (go_at_call 11; refine (awake_walk hC hS _).mono ?_; rintro e w1 ⟨rfl, hk1⟩; have hk := hk.trans hk1 (fun _ _ h => h); clear hk1)
            | (go_at_call 14; with_reducible refine (C1 _).mono ?_; rintro e w1 ⟨rfl, hk1⟩; have hk := hk.trans hk1 (fun _ _ h => h); clear hk1)
            | (go_at_call 15; with_reducible refine (C2 _).mono ?_; rintro e w1 ⟨rfl, hk1⟩; have hk := hk.trans hk1 (fun _ _ h => h); clear hk1)
            | fail)
          go_ret
          exact ⟨rfl, (HK.out.trans HR.out (fun _ _ h => h)).trans hk (fun _ _ h => h)⟩
    · have n2 : (2000 : Int) < (b.size : Int) := by omega
      go_enter Tryd.func3, Tryd.ntmps3
      go_wp2_with (first
        | (go_at_call 11; refine (awake_walk hC hS _).mono ?_; rintro e w1 ⟨rfl, hk⟩)
        | fail)
      go_ret
      exact ⟨rfl, hk⟩
  · have n1 : (2000 : Int) < (a.size : Int) := by omega
    go_enter Tryd.func3, Tryd.ntmps3
    go_wp2_with (first
      | (go_at_call 11; refine (awake_walk hC hS _).mono ?_; rintro e w1 ⟨rfl, hk⟩)
      | fail)
    go_ret
    exact ⟨rfl, hk⟩
end Go.Proofs.YtmnmnbpecdofnaaDoor
