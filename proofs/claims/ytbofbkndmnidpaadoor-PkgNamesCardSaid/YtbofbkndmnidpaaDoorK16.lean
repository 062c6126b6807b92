/-
  The walk over the program's May (layer 9). Conditions: as each theorem states.
-/
import Derived.Test.YtbofbkndmnidpaaDoorK15
namespace Go.Proofs.YtbofbkndmnidpaaDoor
open Go.RowKit Ver Evr Span Dep Rich

/-- The program's May, of a rich dependency that is not too large to be counted. -/
theorem fitsS_items (x : R) (wh : Nat) (h1 : 1 ≤ wh) (h3 : wh ≤ 3) (hc : count x ≤ 24) : (items false x).all (rowS wh) = fitsS wh false x := items_all wh h1 h3 x false hc
def K9 (w : World) (f : Nat) (args : Array Value) (v : Value) : Prop := ∀ W, Kept (fun _ => False) w W → Calls Tryd.prog f args W fun e w' => e = .returned v ∧ Kept (fun _ => False) W w'
set_option maxRecDepth 100000 in
set_option maxHeartbeats 2000000 in
theorem may9_core (k : Nat) (d : D) (sl : Value) (wh : Nat) (L Z : Bool) (dp : Nat) (ans : Int) (w : World) (CL0 : K9 w 52 #[richV k d sl] (.bool L)) (CD0 : K9 w 53 #[richV k d sl] (.int .i64 (dp : Int)))
    (CF0 : K9 w 54 #[richV k d sl, .int .u8 (wh : Int)] (.bool Z)) (ha : ans = if wh < 1 ∨ 3 < wh then 1 else if L = true then 40 else if 8 < dp then 21 else if Z = true then 0 else 4) :
    Calls Tryd.prog 36 #[richV k d sl, .int .u8 (wh : Int)] w fun e w' => e = .returned (.int .i64 ans) ∧ Kept (fun _ => False) w w' := by
  have CL := Lib.hid CL0
  have CD := Lib.hid CD0
  have CF := Lib.hid CF0
  have HB := Lib.hid (Box.made w 28 (richA k d sl))
  have HK := Lib.hid ((Kept.refl (fun _ => False) w).alloc (.cells (richA k d sl) 28))
  have b0 := HB.out.cell 0
  have b1 := HB.out.cell 1
  have b2 := HB.out.cell 2
  have b3 := HB.out.cell 3
  have b4 := HB.out.cell 4
  have b5 := HB.out.cell 5
  have b6 := HB.out.cell 6
  clear CL0 CD0 CF0
  by_cases h1 : wh < 1
  · have HA := Lib.hid (show ans = 1 by rw [ha, if_pos (.inl h1)])
    have g1 : (wh : Int) < 1 := by omega
    clear ha h1
    go_enter Tryd.func36, Tryd.ntmps36
    go_wp2_with (first
      | fail)
    go_ret
    exact ⟨by rw [HA.out]; rfl, HK.out⟩
  by_cases h3 : 3 < wh
  · have HA := Lib.hid (show ans = 1 by rw [ha, if_pos (.inr h3)])
    have g1 : ¬ (wh : Int) < 1 := by omega
    have g3 : (3 : Int) < (wh : Int) := by omega
    clear ha h1 h3
    go_enter Tryd.func36, Tryd.ntmps36
    go_wp2_with (first
      | fail)
    go_ret
    exact ⟨by rw [HA.out]; rfl, HK.out⟩
  have g1 : ¬ (wh : Int) < 1 := by omega
  have g3 : ¬ (3 : Int) < (wh : Int) := by omega
  rw [if_neg (by omega)] at ha
  clear h1 h3
  cases L with
  | true =>
    have HA := Lib.hid (show ans = 40 by rw [ha, if_pos rfl])
    clear ha
    go_enter Tryd.func36, Tryd.ntmps36
    go_wp2_with (first
      | (go_at_call 52; refine (CL.out _ HK.out).mono ?_; rintro e w1 ⟨rfl, hk1⟩; have HB := Lib.hid (hk1.box HB.out (fun h => h)); have HK := Lib.hid (HK.out.trans hk1 (fun _ _ h => h)); have b0 := HB.out.cell 0; have b1 := HB.out.cell 1; have b2 := HB.out.cell 2; have b3 := HB.out.cell 3; have b4 := HB.out.cell 4; have b5 := HB.out.cell 5; have b6 := HB.out.cell 6; clear hk1)
      | fail)
    go_ret
    exact ⟨by rw [HA.out]; rfl, HK.out⟩
  | false =>
    rw [if_neg (by simp)] at ha
    by_cases h8 : 8 < dp
    · have HA := Lib.hid (show ans = 21 by rw [ha, if_pos h8])
      have g8 : (8 : Int) < (dp : Int) := by omega
      clear ha h8
      go_enter Tryd.func36, Tryd.ntmps36
      go_wp2_with (first
        | (go_at_call 52; refine (CL.out _ HK.out).mono ?_; rintro e w1 ⟨rfl, hk1⟩; have HB := Lib.hid (hk1.box HB.out (fun h => h)); have HK := Lib.hid (HK.out.trans hk1 (fun _ _ h => h)); have b0 := HB.out.cell 0; have b1 := HB.out.cell 1; have b2 := HB.out.cell 2; have b3 := HB.out.cell 3; have b4 := HB.out.cell 4; have b5 := HB.out.cell 5; have b6 := HB.out.cell 6; clear hk1)
        | (go_at_call 53; refine (CD.out _ HK.out).mono ?_; rintro e w2 ⟨rfl, hk2⟩; have HB := Lib.hid (hk2.box HB.out (fun h => h)); have HK := Lib.hid (HK.out.trans hk2 (fun _ _ h => h)); have b0 := HB.out.cell 0; have b1 := HB.out.cell 1; have b2 := HB.out.cell 2; have b3 := HB.out.cell 3; have b4 := HB.out.cell 4; have b5 := HB.out.cell 5; have b6 := HB.out.cell 6; clear hk2)
        | fail)
      go_ret
      exact ⟨by rw [HA.out]; rfl, HK.out⟩
    · have g8 : ¬ (8 : Int) < (dp : Int) := by omega
      rw [if_neg h8] at ha
      clear h8
      cases Z with
      | true =>
        have HA := Lib.hid (show ans = 0 by rw [ha, if_pos rfl])
        clear ha
        go_enter Tryd.func36, Tryd.ntmps36
        go_wp2_with (first
          | (go_at_call 52; refine (CL.out _ HK.out).mono ?_; rintro e w1 ⟨rfl, hk1⟩; have HB := Lib.hid (hk1.box HB.out (fun h => h)); have HK := Lib.hid (HK.out.trans hk1 (fun _ _ h => h)); have b0 := HB.out.cell 0; have b1 := HB.out.cell 1; have b2 := HB.out.cell 2; have b3 := HB.out.cell 3; have b4 := HB.out.cell 4; have b5 := HB.out.cell 5; have b6 := HB.out.cell 6; clear hk1)
          | (go_at_call 53; refine (CD.out _ HK.out).mono ?_; rintro e w2 ⟨rfl, hk2⟩; have HB := Lib.hid (hk2.box HB.out (fun h => h)); have HK := Lib.hid (HK.out.trans hk2 (fun _ _ h => h)); have b0 := HB.out.cell 0; have b1 := HB.out.cell 1; have b2 := HB.out.cell 2; have b3 := HB.out.cell 3; have b4 := HB.out.cell 4; have b5 := HB.out.cell 5; have b6 := HB.out.cell 6; clear hk2)
          | (go_at_call 54; refine (CF.out _ HK.out).mono ?_; rintro e w3 ⟨rfl, hk3⟩; have HB := Lib.hid (hk3.box HB.out (fun h => h)); have HK := Lib.hid (HK.out.trans hk3 (fun _ _ h => h)); have b0 := HB.out.cell 0; have b1 := HB.out.cell 1; have b2 := HB.out.cell 2; have b3 := HB.out.cell 3; have b4 := HB.out.cell 4; have b5 := HB.out.cell 5; have b6 := HB.out.cell 6; clear hk3)
          | fail)
        go_ret
        exact ⟨by rw [HA.out]; rfl, HK.out⟩
      | false =>
        have HA := Lib.hid (show ans = 4 by rw [ha, if_neg (by simp)])
        clear ha
        go_enter Tryd.func36, Tryd.ntmps36
        go_wp2_with (first
          | (go_at_call 52; refine (CL.out _ HK.out).mono ?_; rintro e w1 ⟨rfl, hk1⟩; have HB := Lib.hid (hk1.box HB.out (fun h => h)); have HK := Lib.hid (HK.out.trans hk1 (fun _ _ h => h)); have b0 := HB.out.cell 0; have b1 := HB.out.cell 1; have b2 := HB.out.cell 2; have b3 := HB.out.cell 3; have b4 := HB.out.cell 4; have b5 := HB.out.cell 5; have b6 := HB.out.cell 6; clear hk1)
          | (go_at_call 53; refine (CD.out _ HK.out).mono ?_; rintro e w2 ⟨rfl, hk2⟩; have HB := Lib.hid (hk2.box HB.out (fun h => h)); have HK := Lib.hid (HK.out.trans hk2 (fun _ _ h => h)); have b0 := HB.out.cell 0; have b1 := HB.out.cell 1; have b2 := HB.out.cell 2; have b3 := HB.out.cell 3; have b4 := HB.out.cell 4; have b5 := HB.out.cell 5; have b6 := HB.out.cell 6; clear hk2)
          | (go_at_call 54; refine (CF.out _ HK.out).mono ?_; rintro e w3 ⟨rfl, hk3⟩; have HB := Lib.hid (hk3.box HB.out (fun h => h)); have HK := Lib.hid (HK.out.trans hk3 (fun _ _ h => h)); have b0 := HB.out.cell 0; have b1 := HB.out.cell 1; have b2 := HB.out.cell 2; have b3 := HB.out.cell 3; have b4 := HB.out.cell 4; have b5 := HB.out.cell 5; have b6 := HB.out.cell 6; clear hk3)
          | fail)
        go_ret
        exact ⟨by rw [HA.out]; rfl, HK.out⟩
/-- What the program's May answers. -/
theorem may9_walk (x : R) (v : Value) (wh : Nat) (w : World) (hS : RichS w x v) (hc : count x ≤ 40000) (hTB : TabW9 w) (hMB : MayP9 w) :
    Calls Tryd.prog 36 #[v, .int .u8 (wh : Int)] w fun e w' => e = .returned (.int .i64 (mayS x wh)) ∧ Kept (fun _ => False) w w' := by
  have hS0 := hS
  obtain ⟨k, d, l⟩ := x
  rw [RichS] at hS
  obtain ⟨ao, cp, rfl, _⟩ := hS
  refine may9_core k d _ wh (decide (24 < count (.mk k d l))) ((items false (.mk k d l)).all (rowS wh)) (deep (.mk k d l)) _ w (fun W hW => ?_) (fun W hW => depth9_walk _ _ W (RichS.kept hW _ _ hS0) hc) (fun W hW => ?_) ?_
  · obtain ⟨t, e1, e2, e3⟩ := rt_of _ _ (RichS.kept hW _ _ hS0)
    rw [← e1, ← e2]
    exact large_t t W e3 (by rw [e1]; omega)
  · obtain ⟨t, e1, e2, e3⟩ := rt_of _ _ (RichS.kept hW _ _ hS0)
    rw [← e1, ← e2]
    exact formed_t t wh W e3 (by rw [e1]; omega) (hTB.kept hW) (hMB.on hW)
  · unfold mayS
    by_cases h1 : wh < 1 ∨ 3 < wh
    · rw [if_pos h1, if_pos h1]
    · rw [if_neg h1, if_neg h1]
      by_cases h2 : 24 < count (.mk k d l)
      · have e2 : decide (24 < count (.mk k d l)) = true := by simpa using h2
        rw [if_pos h2, if_pos e2]
      · have e2 : ¬ (decide (24 < count (.mk k d l)) = true) := by simpa using h2
        rw [if_neg h2, if_neg e2, fitsS_items _ _ (by omega) (by omega) (by omega)]
end Go.Proofs.YtbofbkndmnidpaaDoor
