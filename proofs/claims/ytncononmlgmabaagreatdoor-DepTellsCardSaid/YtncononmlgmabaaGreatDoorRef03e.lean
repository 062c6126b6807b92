/-
  The walks over the document's answer for layer 3: Show. Conditions: as each theorem states.
-/
import Derived.Test.YtncononmlgmabaaGreatDoorRef03d
import Derived.Test.YtncononmlgmabaaGreatDoorEvrFace
namespace Go.Proofs.YtncononmlgmabaaGreatDoor
open Go.RowKit Ver Evr

set_option maxRecDepth 100000 in
set_option maxHeartbeats 2000000 in
theorem show_walk (n : Int) (v r : ByteArray) (w : World) (hv : v.size ≤ 1000000) (hr : r.size ≤ 1000000) :
    Calls Tryz.prog 24 #[evrV n v r] w fun e w' => e = .returned (showR n v r) ∧ Kept (fun _ => False) w w' := by
  have M1 := fun w => may_walk n v r true w hv hr
  unfold evrV at M1 ⊢
  have HA := Lib.hid (Box.made w 23 #[.int .i64 n, .string v, .string r])
  have HK0 := Lib.hid ((Kept.refl (fun _ => False) w).alloc (.cells #[.int .i64 n, .string v, .string r] 23))
  by_cases hm : mayE (evrE n v r) true = true
  · obtain ⟨h0, h1, h2, h3⟩ := may_parts hm
    have hvl : v.size ≤ 64 := (word_ok h2).2.2
    have hrl : r.size ≤ 64 := by
      rcases h3 with h3 | h3
      · have : r.data.toList.length = 0 := by rw [show r.data.toList = [] from h3]; rfl
        have e : r.data.toList.length = r.size := rfl
        omega
      · exact (word_ok h3).2.2
    have HM := Lib.hid hm
    rw [hm] at M1
    obtain ⟨k, rfl⟩ := Int.eq_ofNat_of_zero_le (show 0 ≤ n from h0)
    have hk : k ≤ 2147483647 := by have : (k : Int) ≤ 2147483647 := h1; omega
    have D1 := digits_any 9 k (by omega) (by omega) hk
    have hdl := digits_len 9 k (by omega)
    clear hm h0 h1 h2 h3 hv hr hk
    by_cases hp : 0 < k
    · have hp' : (0 : Int) < (k : Int) := by omega
      by_cases hr0 : r = ⟨#[]⟩
      · subst hr0
        have HP := Lib.hid hp
        have HF := Lib.hid (@show_yes (k : Int) v ⟨#[]⟩ (⟨(digits k).toArray⟩ ++ ⟨#[58]⟩ ++ v) HM.out (by
          unfold showE evrE
          simp only [app_list3]
          simp [HP.out]))
        clear hp
        go_enter Tryz.func24, Tryz.ntmps24
        go_wp2_with (first
          | (go_at_call 32; with_reducible refine (M1 _).mono ?_; rintro e w5 ⟨rfl, hk5⟩; have q0 := (hk5.box HA.out (fun h => h)).cell 0; have q1 := (hk5.box HA.out (fun h => h)).cell 1; have q2 := (hk5.box HA.out (fun h => h)).cell 2; have HB := Lib.hid (hk5.box HA.out (fun h => h)))
          | (go_at_call 42; with_reducible refine (D1 _).mono ?_; rintro e w6 ⟨rfl, hk6⟩; have q0 := (hk6.box HB.out (fun h => h)).cell 0; have q1 := (hk6.box HB.out (fun h => h)).cell 1; have q2 := (hk6.box HB.out (fun h => h)).cell 2)
          | fail)
        go_returns
        exact ⟨by rw [HF.out]; first | rfl | simp, (HK0.out.trans hk5 (fun _ _ h => h)).trans hk6 (fun _ _ h => h)⟩
      · obtain ⟨b1, b2⟩ := text_ne hr0
        have hr1 : ¬ r.data.toList = [] := fun e => hr0 (empty_text.1 e)
        have HRN := Lib.hid hr1
        have HP := Lib.hid hp
        have HF := Lib.hid (@show_yes (k : Int) v r (⟨(digits k).toArray⟩ ++ ⟨#[58]⟩ ++ v ++ ⟨#[45]⟩ ++ r) HM.out (by
          unfold showE evrE
          simp only [app_list3]
          simp [HP.out, HRN.out]))
        clear hp hr1 hr0
        go_enter Tryz.func24, Tryz.ntmps24
        go_wp2_with (first
          | (go_at_call 32; with_reducible refine (M1 _).mono ?_; rintro e w5 ⟨rfl, hk5⟩; have q0 := (hk5.box HA.out (fun h => h)).cell 0; have q1 := (hk5.box HA.out (fun h => h)).cell 1; have q2 := (hk5.box HA.out (fun h => h)).cell 2; have HB := Lib.hid (hk5.box HA.out (fun h => h)))
          | (go_at_call 42; with_reducible refine (D1 _).mono ?_; rintro e w6 ⟨rfl, hk6⟩; have q0 := (hk6.box HB.out (fun h => h)).cell 0; have q1 := (hk6.box HB.out (fun h => h)).cell 1; have q2 := (hk6.box HB.out (fun h => h)).cell 2)
          | fail)
        go_returns
        exact ⟨by rw [HF.out]; first | rfl | simp, (HK0.out.trans hk5 (fun _ _ h => h)).trans hk6 (fun _ _ h => h)⟩
    · by_cases hr0 : r = ⟨#[]⟩
      · subst hr0
        have hk0 : k = 0 := by omega
        subst hk0
        rw [show ((0 : Nat) : Int) = 0 from rfl] at M1
        have HF := Lib.hid (@show_yes ((0 : Nat) : Int) v ⟨#[]⟩ (⟨#[]⟩ ++ v) HM.out (by
          unfold showE evrE
          simp only [app_list3]
          simp))
        go_enter Tryz.func24, Tryz.ntmps24
        go_wp2_with (first
          | (go_at_call 32; with_reducible refine (M1 _).mono ?_; rintro e w5 ⟨rfl, hk5⟩; have q0 := (hk5.box HA.out (fun h => h)).cell 0; have q1 := (hk5.box HA.out (fun h => h)).cell 1; have q2 := (hk5.box HA.out (fun h => h)).cell 2; have HB := Lib.hid (hk5.box HA.out (fun h => h)))
          | (go_at_call 42; with_reducible refine (D1 _).mono ?_; rintro e w6 ⟨rfl, hk6⟩; have q0 := (hk6.box HB.out (fun h => h)).cell 0; have q1 := (hk6.box HB.out (fun h => h)).cell 1; have q2 := (hk6.box HB.out (fun h => h)).cell 2)
          | fail)
        go_returns
        exact ⟨by rw [HF.out]; first | rfl | simp, HK0.out.trans hk5 (fun _ _ h => h)⟩
      · obtain ⟨b1, b2⟩ := text_ne hr0
        have hr1 : ¬ r.data.toList = [] := fun e => hr0 (empty_text.1 e)
        have HRN := Lib.hid hr1
        have hk0 : k = 0 := by omega
        subst hk0
        rw [show ((0 : Nat) : Int) = 0 from rfl] at M1
        have HF := Lib.hid (@show_yes ((0 : Nat) : Int) v r (⟨#[]⟩ ++ v ++ ⟨#[45]⟩ ++ r) HM.out (by
          unfold showE evrE
          simp only [app_list3]
          simp [HRN.out]))
        clear hr1 hr0
        go_enter Tryz.func24, Tryz.ntmps24
        go_wp2_with (first
          | (go_at_call 32; with_reducible refine (M1 _).mono ?_; rintro e w5 ⟨rfl, hk5⟩; have q0 := (hk5.box HA.out (fun h => h)).cell 0; have q1 := (hk5.box HA.out (fun h => h)).cell 1; have q2 := (hk5.box HA.out (fun h => h)).cell 2; have HB := Lib.hid (hk5.box HA.out (fun h => h)))
          | (go_at_call 42; with_reducible refine (D1 _).mono ?_; rintro e w6 ⟨rfl, hk6⟩; have q0 := (hk6.box HB.out (fun h => h)).cell 0; have q1 := (hk6.box HB.out (fun h => h)).cell 1; have q2 := (hk6.box HB.out (fun h => h)).cell 2)
          | fail)
        go_returns
        exact ⟨by rw [HF.out]; first | rfl | simp, HK0.out.trans hk5 (fun _ _ h => h)⟩
  · have hm' : mayE (evrE n v r) true = false := by simpa using hm
    have HF := Lib.hid (show_no hm')
    rw [hm'] at M1
    clear hm hm'
    go_enter Tryz.func24, Tryz.ntmps24
    go_wp2_with (first
      | (go_at_call 32; with_reducible refine (M1 _).mono ?_; rintro e w5 ⟨rfl, hk5⟩)
      | fail)
    go_returns
    exact ⟨by rw [HF.out]; rfl, HK0.out.trans hk5 (fun _ _ h => h)⟩
end Go.Proofs.YtncononmlgmabaaGreatDoor
