/-
  The walks over the document's answer for layer 3. Conditions: as each theorem states.
-/
import Derived.Test.YtncononmlgmabaaGreatDoorRef03
import Derived.Test.YtncononmlgmabaaGreatDoorEvrKit
import Derived.Deep.QuietTactic
import Derived.BigQuiet
namespace Go.Proofs.YtncononmlgmabaaGreatDoor
open Go.RowKit Ver Evr

/-- An EVR. -/
theorem may_low {n : Int} {v r : ByteArray} {dep : Bool} (h : n < 0 ∨ 2147483647 < n) : mayE (evrE n v r) dep = false := by
  unfold mayE evrE
  rcases h with h | h
  · simp [show ¬ 0 ≤ n by omega]
  · simp [show ¬ n ≤ 2147483647 by omega]
theorem may_ver {n : Int} {v r : ByteArray} {dep : Bool} (h : wordE v.data.toList = false) : mayE (evrE n v r) dep = false := by unfold mayE evrE; simp [h]
theorem may_dep {n : Int} {v : ByteArray} {dep : Bool} (h0 : 0 ≤ n) (h1 : n ≤ 2147483647) (h : wordE v.data.toList = true) : mayE (evrE n v ⟨#[]⟩) dep = dep := by unfold mayE evrE; simp [h, h0, h1]
theorem may_rel {n : Int} {v r : ByteArray} {dep : Bool} (h0 : 0 ≤ n) (h1 : n ≤ 2147483647) (h : wordE v.data.toList = true) (hr : r ≠ ⟨#[]⟩) : mayE (evrE n v r) dep = wordE r.data.toList := by
  unfold mayE evrE
  simp only [h, h0, h1, decide_true, Bool.true_and, if_neg (fun e => hr (empty_text.1 e))]

set_option maxRecDepth 100000 in
set_option maxHeartbeats 1000000 in
theorem may_walk (n : Int) (v r : ByteArray) (dep : Bool) (w : World) (hv : v.size ≤ 1000000) (hr : r.size ≤ 1000000) :
    Calls Tryz.prog 32 #[evrV n v r, .bool dep] w fun e w' => e = .returned (.bool (mayE (evrE n v r) dep)) ∧ Kept (fun _ => False) w w' := by
  unfold evrV
  have W1 := fun w => word_walk v w hv
  have W2 := fun w => word_walk r w hr
  by_cases h0 : n < 0
  · have HN := Lib.hid (@may_low n v r dep (.inl h0))
    have g0 : decide (n < 0) = true := by simp [h0]
    clear h0
    go_enter Tryz.func32, Tryz.ntmps32
    go_wp2_with fail
    go_ret
    exact ⟨by rw [HN.out]; rfl, (Kept.refl _ _).alloc _⟩
  · by_cases h1 : 2147483647 < n
    · have HN := Lib.hid (@may_low n v r dep (.inr h1))
      have g0 : decide (n < 0) = false := by simp; omega
      have g1 : decide (2147483647 < n) = true := by simp [h1]
      clear h1 h0
      go_enter Tryz.func32, Tryz.ntmps32
      go_wp2_with fail
      go_ret
      exact ⟨by rw [HN.out]; rfl, (Kept.refl _ _).alloc _⟩
    · have g0 : decide (n < 0) = false := by simp; omega
      have g1 : decide (2147483647 < n) = false := by simp; omega
      by_cases hw : wordE v.data.toList = true
      · by_cases hr0 : r = ⟨#[]⟩
        · subst hr0
          have HN := Lib.hid (@may_dep n v dep (by omega) (by omega) hw)
          rw [hw] at W1
          clear h1 h0 hw
          go_enter Tryz.func32, Tryz.ntmps32
          go_wp2_with (first | (go_at_call 46; with_reducible refine (W1 _).mono ?_; rintro e w1 ⟨rfl, rfl⟩) | fail)
          go_ret
          exact ⟨by rw [HN.out]; rfl, (Kept.refl _ _).alloc _⟩
        · have HN := Lib.hid (@may_rel n v r dep (by omega) (by omega) hw hr0)
          obtain ⟨b1, b2⟩ := text_ne hr0
          rw [hw] at W1
          clear h1 h0 hw hr0
          go_enter Tryz.func32, Tryz.ntmps32
          go_wp2_with (first | (go_at_call 46; (first | (with_reducible refine (W1 _).mono ?_) | (with_reducible refine (W2 _).mono ?_)); rintro e w1 ⟨rfl, rfl⟩) | fail)
          go_ret
          exact ⟨by rw [HN.out]; rfl, (Kept.refl _ _).alloc _⟩
      · have hw' : wordE v.data.toList = false := by simpa using hw
        have HN := Lib.hid (@may_ver n v r dep hw')
        rw [hw'] at W1
        clear h1 h0 hw hw'
        go_enter Tryz.func32, Tryz.ntmps32
        go_wp2_with (first | (go_at_call 46; with_reducible refine (W1 _).mono ?_; rintro e w1 ⟨rfl, rfl⟩) | fail)
        go_ret
        exact ⟨by rw [HN.out]; rfl, (Kept.refl _ _).alloc _⟩

/-- What cut answers. -/
def CutR (s : ByteArray) (c : UInt8) (e : Ending) : Prop := ∃ x y z, e = .returned (.tuple #[.string x, .string y, .bool z]) ∧ cut c s.data.toList = (x.data.toList, y.data.toList, z) ∧ x.size ≤ s.size ∧ y.size ≤ s.size
theorem cut_step {c b : UInt8} {x y : List UInt8} (hx : ∀ z ∈ x, z ≠ c) (h : b = c) : cut c (x ++ b :: y) = (x, y, true) := by rw [h]; exact cut_at c x y hx
end Go.Proofs.YtncononmlgmabaaGreatDoor
