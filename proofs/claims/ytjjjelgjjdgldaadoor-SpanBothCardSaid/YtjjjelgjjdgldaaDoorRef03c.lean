/-
  The walks over the document's answer for layer 3: how two EVRs compare. Conditions: as each theorem states.
-/
import Derived.Test.YtjjjelgjjdgldaaDoorEvrKit
import Derived.Test.YtjjjelgjjdgldaaDoorRef02b
import Derived.Handy
import Derived.Lib.Hide
import Derived.Deep.QuietTactic
import Derived.BigQuiet
namespace Go.Proofs.YtjjjelgjjdgldaaDoor
open Go.RowKit Ver Evr

theorem cmpE_less {n m : Int} {v r u s : ByteArray} (h : n < m) : cmpE (evrE n v r) (evrE m u s) = -1 := by unfold cmpE evrE; rw [if_pos h]
theorem cmpE_more {n m : Int} {v r u s : ByteArray} (h : m < n) : cmpE (evrE n v r) (evrE m u s) = 1 := by
  unfold cmpE evrE
  have : ¬ n < m := by omega
  simp [this, h]
theorem cmpE_ver {n : Int} {v r u s : ByteArray} (h : cmpV v.data.toList u.data.toList ≠ 0 ∨ r = ⟨#[]⟩ ∨ s = ⟨#[]⟩) : cmpE (evrE n v r) (evrE n u s) = cmpV v.data.toList u.data.toList := by
  unfold cmpE evrE
  simp only [Int.lt_irrefl, if_false]
  rw [if_pos (by rcases h with h | h | h; exact .inl h; exact .inr (.inl (empty_text.2 h)); exact .inr (.inr (empty_text.2 h)))]
theorem cmpE_rel {n : Int} {v r u s : ByteArray} (h : cmpV v.data.toList u.data.toList = 0) (hr : r ≠ ⟨#[]⟩) (hs : s ≠ ⟨#[]⟩) : cmpE (evrE n v r) (evrE n u s) = cmpV r.data.toList s.data.toList := by
  unfold cmpE evrE
  simp only [Int.lt_irrefl, if_false]
  rw [if_neg (by
    rintro (h1 | h1 | h1)
    · exact h1 h
    · exact hr (empty_text.1 h1)
    · exact hs (empty_text.1 h1))]

set_option maxRecDepth 100000 in
set_option maxHeartbeats 2000000 in
theorem compare3_walk (n m : Int) (v r u s : ByteArray) (w : World) (hv : v.size ≤ 1000000) (hr : r.size ≤ 1000000) (hu : u.size ≤ 1000000) (hs : s.size ≤ 1000000) :
    Calls Tryd.prog 27 #[evrV n v r, evrV m u s] w fun e w' => e = .returned (.int .i64 (cmpE (evrE n v r) (evrE m u s))) ∧ Kept (fun _ => False) w w' := by
  unfold evrV
  have hk0 : Kept (fun _ => False) w ((w.alloc (.cells #[.int .i64 n, .string v, .string r] 29)).alloc (.cells #[.int .i64 m, .string u, .string s] 29)) := ((Kept.refl _ _).alloc _).alloc _
  have HK := Lib.hid hk0
  have bA := (Box.made w 29 #[.int .i64 n, .string v, .string r]).after_alloc (.cells #[.int .i64 m, .string u, .string s] 29)
  have bB := Box.made (w.alloc (.cells #[.int .i64 n, .string v, .string r] 29)) 29 #[.int .i64 m, .string u, .string s]
  rw [World.size_alloc] at bB
  have HA := Lib.hid bA
  have HB := Lib.hid bB
  clear hk0 bA bB
  by_cases h1 : n < m
  · have HF := Lib.hid (@cmpE_less n m v r u s h1)
    have g1 : decide (n < m) = true := by simp [h1]
    clear h1
    go_enter Tryd.func27, Tryd.ntmps27
    go_wp2_with fail
    go_ret
    exact ⟨by rw [HF.out]; rfl, HK.out⟩
  · by_cases h2 : m < n
    · have HF := Lib.hid (@cmpE_more n m v r u s h2)
      have g1 : decide (n < m) = false := by simp; omega
      have g2 : decide (m < n) = true := by simp [h2]
      clear h1 h2
      go_enter Tryd.func27, Tryd.ntmps27
      go_wp2_with fail
      go_ret
      exact ⟨by rw [HF.out]; rfl, HK.out⟩
    · obtain rfl : n = m := by omega
      have W1 := fun w => compare_walk v u w hv hu
      have W2 := fun w => compare_walk r s w hr hs
      by_cases h3 : cmpV v.data.toList u.data.toList = 0
      · by_cases h4 : r = ⟨#[]⟩
        · have HF := Lib.hid (@cmpE_ver n v r u s (.inr (.inl h4)))
          have HZ := Lib.hid h3
          subst h4
          rw [h3] at W1
          clear h1 h2 h3
          go_enter Tryd.func27, Tryd.ntmps27
          go_wp2_with (first | (go_at_call 34; with_reducible refine (W1 _).mono ?_; rintro e w5 ⟨rfl, hk5⟩; have qA := (hk5.box HA.out (fun h => h)).cell 2; have qB := (hk5.box HB.out (fun h => h)).cell 2) | fail)
          all_goals go_ret
          all_goals exact ⟨by rw [HF.out, HZ.out]; rfl, HK.out.trans hk5 (fun _ _ h => h)⟩
        · obtain ⟨b1, b2⟩ := text_ne h4
          by_cases h5 : s = ⟨#[]⟩
          · have HF := Lib.hid (@cmpE_ver n v r u s (.inr (.inr h5)))
            have HZ := Lib.hid h3
            subst h5
            rw [h3] at W1
            clear h1 h2 h3 h4
            go_enter Tryd.func27, Tryd.ntmps27
            go_wp2_with (first | (go_at_call 34; with_reducible refine (W1 _).mono ?_; rintro e w5 ⟨rfl, hk5⟩; have qA := (hk5.box HA.out (fun h => h)).cell 2; have qB := (hk5.box HB.out (fun h => h)).cell 2) | fail)
            all_goals go_ret
            all_goals exact ⟨by rw [HF.out, HZ.out]; rfl, HK.out.trans hk5 (fun _ _ h => h)⟩
          · obtain ⟨b3, b4⟩ := text_ne h5
            have HF := Lib.hid (@cmpE_rel n v r u s h3 h4 h5)
            rw [h3] at W1
            clear h1 h2 h3 h4 h5
            go_enter Tryd.func27, Tryd.ntmps27
            go_wp2_with (first
              | (go_at_call 34; with_reducible refine (W1 _).mono ?_; rintro e w5 ⟨rfl, hk5⟩; have qA := (hk5.box HA.out (fun h => h)).cell 2; have qB := (hk5.box HB.out (fun h => h)).cell 2)
              | (go_at_call 34; with_reducible refine (W2 _).mono ?_; rintro e w6 ⟨rfl, hk6⟩)
              | fail)
            all_goals go_ret
            all_goals exact ⟨by rw [HF.out]; rfl, (HK.out.trans hk5 (fun _ _ h => h)).trans hk6 (fun _ _ h => h)⟩
      · have HF := Lib.hid (@cmpE_ver n v r u s (.inl h3))
        have e3 : (cmpV v.data.toList u.data.toList != 0) = true := by simp [h3]
        clear h1 h2 h3
        go_enter Tryd.func27, Tryd.ntmps27
        go_wp2_with (first | (go_at_call 34; with_reducible refine (W1 _).mono ?_; rintro e w5 ⟨rfl, hk5⟩; have qA := (hk5.box HA.out (fun h => h)).cell 2; have qB := (hk5.box HB.out (fun h => h)).cell 2) | fail)
        all_goals go_ret
        all_goals exact ⟨by rw [HF.out]; rfl, HK.out.trans hk5 (fun _ _ h => h)⟩
end Go.Proofs.YtjjjelgjjdgldaaDoor
