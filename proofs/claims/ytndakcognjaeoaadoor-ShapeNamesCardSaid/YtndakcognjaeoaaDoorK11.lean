/-
  The walk over the program's May (layer 9). The walks over helpers of the laws of layer 9: atom, rich, only, size, large. A region that draws its order, each operation of which yields, in whatever order, a value of its own kind, of which the others keep what holds: one goal for each operation, none for the orders. Nothing of the program is named here. Conditions: as each theorem states.
-/
import Derived.Test.YtndakcognjaeoaaDoorK10
import Derived.Test.YtndakcognjaeoaaDoorK04
import Derived.RegionTactic
namespace Go.Proofs.YtndakcognjaeoaaDoor
open Go.RowKit Ver Evr Span Dep Rich

/-- The program's May, of a rich dependency that is not too large to be counted. -/
theorem fitsS_items (x : R) (wh : Nat) (h1 : 1 ≤ wh) (h3 : wh ≤ 3) (hc : count x ≤ 24) : (items false x).all (rowS wh) = fitsS wh false x := items_all wh h1 h3 x false hc
def K9 (w : World) (f : Nat) (args : Array Value) (v : Value) : Prop := ∀ W, Kept (fun _ => False) w W → Calls Tryd.prog f args W fun e w' => e = .returned v ∧ Kept (fun _ => False) W w'
set_option maxRecDepth 100000 in
set_option maxHeartbeats 2000000 in
theorem may9_core (k : Nat) (d : D) (sl : Value) (wh : Nat) (L Z : Bool) (dp : Nat) (ans : Int) (w : World) (CL0 : K9 w 42 #[richV k d sl] (.bool L)) (CD0 : K9 w 20 #[richV k d sl] (.int .i64 (dp : Int)))
    (CF0 : K9 w 43 #[richV k d sl, .int .u8 (wh : Int)] (.bool Z)) (ha : ans = if wh < 1 ∨ 3 < wh then 1 else if L = true then 40 else if 8 < dp then 21 else if Z = true then 0 else 4) :
    Calls Tryd.prog 17 #[richV k d sl, .int .u8 (wh : Int)] w fun e w' => e = .returned (.int .i64 ans) ∧ Kept (fun _ => False) w w' := by
  have CL := Lib.hid CL0
  have CD := Lib.hid CD0
  have CF := Lib.hid CF0
  have HB := Lib.hid (Box.made w 29 (richA k d sl))
  have HK := Lib.hid ((Kept.refl (fun _ => False) w).alloc (.cells (richA k d sl) 29))
  have b0 := HB.out.cell 0
  have b1 := HB.out.cell 1
  have b2 := HB.out.cell 2
  have b3 := HB.out.cell 3
  have b4 := HB.out.cell 4
  have b5 := HB.out.cell 5
  have b6 := HB.out.cell 6
  clear CL0 CD0 CF0
  by_cases h1 : wh < 1
  · have HA := Lib.hid (show ans = 1 by rw [ha, if_pos (.inl h1)])
    have g1 : (wh : Int) < 1 := by omega
    clear ha h1
    go_enter Tryd.func17, Tryd.ntmps17
    go_wp2_with (first
      | fail)
    go_ret
    exact ⟨by rw [HA.out]; rfl, HK.out⟩
  by_cases h3 : 3 < wh
  · have HA := Lib.hid (show ans = 1 by rw [ha, if_pos (.inr h3)])
    have g1 : ¬ (wh : Int) < 1 := by omega
    have g3 : (3 : Int) < (wh : Int) := by omega
    clear ha h1 h3
    go_enter Tryd.func17, Tryd.ntmps17
    go_wp2_with (first
      | fail)
    go_ret
    exact ⟨by rw [HA.out]; rfl, HK.out⟩
  have g1 : ¬ (wh : Int) < 1 := by omega
  have g3 : ¬ (3 : Int) < (wh : Int) := by omega
  rw [if_neg (by omega)] at ha
  clear h1 h3
  cases L with
  | true =>
    have HA := Lib.hid (show ans = 40 by rw [ha, if_pos rfl])
    clear ha
    go_enter Tryd.func17, Tryd.ntmps17
    go_wp2_with (first
      | (go_at_call 42; refine (CL.out _ HK.out).mono ?_; rintro e w1 ⟨rfl, hk1⟩; have HB := Lib.hid (hk1.box HB.out (fun h => h)); have HK := Lib.hid (HK.out.trans hk1 (fun _ _ h => h)); have b0 := HB.out.cell 0; have b1 := HB.out.cell 1; have b2 := HB.out.cell 2; have b3 := HB.out.cell 3; have b4 := HB.out.cell 4; have b5 := HB.out.cell 5; have b6 := HB.out.cell 6; clear hk1)
      | fail)
    go_ret
    exact ⟨by rw [HA.out]; rfl, HK.out⟩
  | false =>
    rw [if_neg (by simp)] at ha
    by_cases h8 : 8 < dp
    · have HA := Lib.hid (show ans = 21 by rw [ha, if_pos h8])
      have g8 : (8 : Int) < (dp : Int) := by omega
      clear ha h8
      go_enter Tryd.func17, Tryd.ntmps17
      go_wp2_with (first
        | (go_at_call 42; refine (CL.out _ HK.out).mono ?_; rintro e w1 ⟨rfl, hk1⟩; have HB := Lib.hid (hk1.box HB.out (fun h => h)); have HK := Lib.hid (HK.out.trans hk1 (fun _ _ h => h)); have b0 := HB.out.cell 0; have b1 := HB.out.cell 1; have b2 := HB.out.cell 2; have b3 := HB.out.cell 3; have b4 := HB.out.cell 4; have b5 := HB.out.cell 5; have b6 := HB.out.cell 6; clear hk1)
        | (go_at_call 20; refine (CD.out _ HK.out).mono ?_; rintro e w2 ⟨rfl, hk2⟩; have HB := Lib.hid (hk2.box HB.out (fun h => h)); have HK := Lib.hid (HK.out.trans hk2 (fun _ _ h => h)); have b0 := HB.out.cell 0; have b1 := HB.out.cell 1; have b2 := HB.out.cell 2; have b3 := HB.out.cell 3; have b4 := HB.out.cell 4; have b5 := HB.out.cell 5; have b6 := HB.out.cell 6; clear hk2)
        | fail)
      go_ret
      exact ⟨by rw [HA.out]; rfl, HK.out⟩
    · have g8 : ¬ (8 : Int) < (dp : Int) := by omega
      rw [if_neg h8] at ha
      clear h8
      cases Z with
      | true =>
        have HA := Lib.hid (show ans = 0 by rw [ha, if_pos rfl])
        clear ha
        go_enter Tryd.func17, Tryd.ntmps17
        go_wp2_with (first
          | (go_at_call 42; refine (CL.out _ HK.out).mono ?_; rintro e w1 ⟨rfl, hk1⟩; have HB := Lib.hid (hk1.box HB.out (fun h => h)); have HK := Lib.hid (HK.out.trans hk1 (fun _ _ h => h)); have b0 := HB.out.cell 0; have b1 := HB.out.cell 1; have b2 := HB.out.cell 2; have b3 := HB.out.cell 3; have b4 := HB.out.cell 4; have b5 := HB.out.cell 5; have b6 := HB.out.cell 6; clear hk1)
          | (go_at_call 20; refine (CD.out _ HK.out).mono ?_; rintro e w2 ⟨rfl, hk2⟩; have HB := Lib.hid (hk2.box HB.out (fun h => h)); have HK := Lib.hid (HK.out.trans hk2 (fun _ _ h => h)); have b0 := HB.out.cell 0; have b1 := HB.out.cell 1; have b2 := HB.out.cell 2; have b3 := HB.out.cell 3; have b4 := HB.out.cell 4; have b5 := HB.out.cell 5; have b6 := HB.out.cell 6; clear hk2)
          | (go_at_call 43; refine (CF.out _ HK.out).mono ?_; rintro e w3 ⟨rfl, hk3⟩; have HB := Lib.hid (hk3.box HB.out (fun h => h)); have HK := Lib.hid (HK.out.trans hk3 (fun _ _ h => h)); have b0 := HB.out.cell 0; have b1 := HB.out.cell 1; have b2 := HB.out.cell 2; have b3 := HB.out.cell 3; have b4 := HB.out.cell 4; have b5 := HB.out.cell 5; have b6 := HB.out.cell 6; clear hk3)
          | fail)
        go_ret
        exact ⟨by rw [HA.out]; rfl, HK.out⟩
      | false =>
        have HA := Lib.hid (show ans = 4 by rw [ha, if_neg (by simp)])
        clear ha
        go_enter Tryd.func17, Tryd.ntmps17
        go_wp2_with (first
          | (go_at_call 42; refine (CL.out _ HK.out).mono ?_; rintro e w1 ⟨rfl, hk1⟩; have HB := Lib.hid (hk1.box HB.out (fun h => h)); have HK := Lib.hid (HK.out.trans hk1 (fun _ _ h => h)); have b0 := HB.out.cell 0; have b1 := HB.out.cell 1; have b2 := HB.out.cell 2; have b3 := HB.out.cell 3; have b4 := HB.out.cell 4; have b5 := HB.out.cell 5; have b6 := HB.out.cell 6; clear hk1)
          | (go_at_call 20; refine (CD.out _ HK.out).mono ?_; rintro e w2 ⟨rfl, hk2⟩; have HB := Lib.hid (hk2.box HB.out (fun h => h)); have HK := Lib.hid (HK.out.trans hk2 (fun _ _ h => h)); have b0 := HB.out.cell 0; have b1 := HB.out.cell 1; have b2 := HB.out.cell 2; have b3 := HB.out.cell 3; have b4 := HB.out.cell 4; have b5 := HB.out.cell 5; have b6 := HB.out.cell 6; clear hk2)
          | (go_at_call 43; refine (CF.out _ HK.out).mono ?_; rintro e w3 ⟨rfl, hk3⟩; have HB := Lib.hid (hk3.box HB.out (fun h => h)); have HK := Lib.hid (HK.out.trans hk3 (fun _ _ h => h)); have b0 := HB.out.cell 0; have b1 := HB.out.cell 1; have b2 := HB.out.cell 2; have b3 := HB.out.cell 3; have b4 := HB.out.cell 4; have b5 := HB.out.cell 5; have b6 := HB.out.cell 6; clear hk3)
          | fail)
        go_ret
        exact ⟨by rw [HA.out]; rfl, HK.out⟩
/-- What the program's May answers. -/
theorem may9_walk (x : R) (v : Value) (wh : Nat) (w : World) (hS : RichS w x v) (hc : count x ≤ 40000) (hTB : TabW9 w) (hMB : MayP9 w) :
    Calls Tryd.prog 17 #[v, .int .u8 (wh : Int)] w fun e w' => e = .returned (.int .i64 (mayS x wh)) ∧ Kept (fun _ => False) w w' := by
  have hS0 := hS
  obtain ⟨k, d, l⟩ := x
  rw [RichS] at hS
  obtain ⟨ao, cp, rfl, _⟩ := hS
  refine may9_core k d _ wh (decide (24 < count (.mk k d l))) ((items false (.mk k d l)).all (rowS wh)) (deep (.mk k d l)) _ w (fun W hW => ?_) (fun W hW => depth9_walk _ _ W (RichS.kept hW _ _ hS0) hc) (fun W hW => ?_) ?_
  · obtain ⟨t, e1, e2, e3⟩ := rt_of _ _ (RichS.kept hW _ _ hS0)
    rw [← e1, ← e2]
    exact large_t t W e3 (by rw [e1]; omega)
  · obtain ⟨t, e1, e2, e3⟩ := rt_of _ _ (RichS.kept hW _ _ hS0)
    rw [← e1, ← e2]
    exact formed_t t wh W e3 (by rw [e1]; omega) (hTB.kept hW) (hMB.on hW)
  · unfold mayS
    by_cases h1 : wh < 1 ∨ 3 < wh
    · rw [if_pos h1, if_pos h1]
    · rw [if_neg h1, if_neg h1]
      by_cases h2 : 24 < count (.mk k d l)
      · have e2 : decide (24 < count (.mk k d l)) = true := by simpa using h2
        rw [if_pos h2, if_pos e2]
      · have e2 : ¬ (decide (24 < count (.mk k d l)) = true) := by simpa using h2
        rw [if_neg h2, if_neg e2, fitsS_items _ _ (by omega) (by omega) (by omega)]
end Go.Proofs.YtndakcognjaeoaaDoor

namespace Go.Proofs.YtndakcognjaeoaaDoor
open Go.RowKit Ver Evr Span Dep Rich

def nilS : Value := .slice none 0 0
set_option maxRecDepth 100000 in
set_option maxHeartbeats 2000000 in
theorem atom9_walk (s : ByteArray) (w : World) :
    Calls Tryd.prog 14 #[.string s] w fun e w' => e = .returned (richV 1 ⟨s.data.toList, 0, Dep.zeroD⟩ (.slice none 0 0)) ∧ Kept (fun _ => False) w w' := by
  have hB := Box.made w 29 #[.int .u8 0, .string ⟨#[]⟩, .int .u8 0, .int .i64 0, .string ⟨#[]⟩, .string ⟨#[]⟩, .slice none 0 0]
  have f0 := hB.free 0
  have f1 := hB.free 1
  have f2 := hB.free 2
  have f3 := hB.free 3
  have f4 := hB.free 4
  have f5 := hB.free 5
  have f6 := hB.free 6
  clear hB
  go_enter Tryd.func14, Tryd.ntmps14
  go_wp2_with fail
  go_returns
  exact ⟨rfl, (Kept.refl _ w).alloc _⟩
set_option maxRecDepth 100000 in
set_option maxHeartbeats 2000000 in
theorem rich9_walk (k : Nat) (sl : Value) (hsl : ∃ ao n cp, sl = .slice ao n cp) (w : World) :
    Calls Tryd.prog 15 #[.int .u8 (k : Int), sl] w fun e w' => e = .returned (richV k zD sl) ∧ Kept (fun _ => False) w w' := by
  obtain ⟨ao, n, cp, rfl⟩ := hsl
  have hB := Box.made w 29 #[.int .u8 0, .string ⟨#[]⟩, .int .u8 0, .int .i64 0, .string ⟨#[]⟩, .string ⟨#[]⟩, .slice none 0 0]
  have f0 := hB.free 0
  have f1 := hB.free 1
  have f2 := hB.free 2
  have f3 := hB.free 3
  have f4 := hB.free 4
  have f5 := hB.free 5
  have f6 := hB.free 6
  clear hB
  go_enter Tryd.func15, Tryd.ntmps15
  go_wp2_with fail
  go_returns
  exact ⟨rfl, (Kept.refl _ w).alloc _⟩
/-- What is to be answered at a place. -/
def wantS (m i : Nat) : Int := if m < i then 4 else 0
def onlyB (x : R) (m : Nat) : Bool := decide (mayS x 1 = wantS m 1) && decide (mayS x 2 = wantS m 2) && decide (mayS x 3 = wantS m 3)
theorem only_no {x : R} {m j : Nat} (h1 : 1 ≤ j) (h3 : j ≤ 3) (h : mayS x j ≠ wantS m j) : onlyB x m = false := by
  have hj : j = 1 ∨ j = 2 ∨ j = 3 := by omega
  unfold onlyB
  rcases hj with rfl | rfl | rfl <;> simp [h]
theorem only_yes {x : R} {m : Nat} (h : ∀ i, 1 ≤ i → i < 4 → mayS x i = wantS m i) : onlyB x m = true := by
  unfold onlyB
  rw [h 1 (by omega) (by omega), h 2 (by omega) (by omega), h 3 (by omega) (by omega)]
  simp
set_option maxRecDepth 100000 in
set_option maxHeartbeats 2000000 in
theorem only9_core (x : R) (k : Nat) (d : D) (sl : Value) (m : Nat) (w : World) (hMC : ∀ (wh : Nat) W, Kept (fun _ => False) w W → Calls Tryd.prog 17 #[richV k d sl, .int .u8 (wh : Int)] W fun e w' => e = .returned (.int .i64 (mayS x wh)) ∧ Kept (fun _ => False) W w') :
    Calls Tryd.prog 16 #[richV k d sl, .int .u8 (m : Int)] w fun e w' => e = .returned (.bool (onlyB x m)) ∧ Kept (fun _ => False) w w' := by
  have HMC := Lib.hid hMC
  have HB0 := Lib.hid (Box.made w 29 (richA k d sl))
  have HK0 := Lib.hid ((Kept.refl (fun _ => False) w).alloc (.cells (richA k d sl) 29))
  clear hMC
  go_enter Tryd.func16, Tryd.ntmps16
  go_wp2_with fail
  go_loopw [5] (fun v5 wr => ∃ j : Nat, v5 = .int .u8 (j : Int) ∧ 1 ≤ j ∧ j ≤ 4 ∧ Hid (∀ i, 1 ≤ i → i < j → mayS x i = wantS m i) ∧ Hid (Box wr w.heap.size 29 (richA k d sl)) ∧ Hid (Kept (fun _ => False) w wr)) (fun v5 _ => 4 - (intOf v5).toNat)
  case atStart => exact ⟨1, rfl, Nat.le_refl _, by omega, Lib.hid (fun i h1 h2 => by omega), HB0, HK0⟩
  case round =>
    obtain ⟨j, rfl, hj1, hj4, HA, HB, HK⟩ := hrel
    rename World => wr
    by_cases hlt : j ≤ 3
    · have hltI : (j : Int) ≤ 3 := by omega
      have hj0 : (0 : Int) ≤ (j : Int) := by omega
      have MC := Lib.hid (fun W hW => HMC.out j W hW)
      have b0 := HB.out.cell 0
      have b1 := HB.out.cell 1
      have b2 := HB.out.cell 2
      have b3 := HB.out.cell 3
      have b4 := HB.out.cell 4
      have b5 := HB.out.cell 5
      have b6 := HB.out.cell 6
      obtain ⟨z, hz⟩ : ∃ z, z = mayS x j := ⟨_, rfl⟩
      rw [← hz] at MC
      have HZZ := Lib.hid hz
      clear hz
      by_cases hm : m < j
      · have hmI : (m : Int) < (j : Int) := by omega
        have HW := Lib.hid (show wantS m j = 4 by unfold wantS; rw [if_pos hm])
        clear hm
        by_cases he : z = 4
        · subst he
          go_wp2_with (first
            | (go_at_call 17; refine (MC.out _ HK.out).mono ?_; rintro e w2 ⟨rfl, hk2⟩; have HB2 := Lib.hid (hk2.box HB.out (fun h => h)); have HK2 := Lib.hid (HK.out.trans hk2 (fun _ _ h => h)); clear hk2)
            | fail)
          go_roundw
          case rel => exact ⟨j + 1, by go_num, by omega, by omega, Lib.hid (fun i h1 h2 => if hij : i = j then by rw [hij, ← HZZ.out, HW.out] else HA.out i h1 (by omega)), HB2, HK2⟩
          case measure => simp [intOf]; omega
        · have hne : (z != 4) = true := by simpa using he
          have HNE := Lib.hid he
          clear he
          go_wp2_with (first
            | (go_at_call 17; refine (MC.out _ HK.out).mono ?_; rintro e w2 ⟨rfl, hk2⟩; have HB2 := Lib.hid (hk2.box HB.out (fun h => h)); have HK2 := Lib.hid (HK.out.trans hk2 (fun _ _ h => h)); clear hk2)
            | fail)
          go_ret
          exact ⟨by rw [only_no hj1 (by omega) (by rw [← HZZ.out, HW.out]; exact HNE.out)]; rfl, HK2.out⟩
      · have hmI : ¬ (m : Int) < (j : Int) := by omega
        have HW := Lib.hid (show wantS m j = 0 by unfold wantS; rw [if_neg hm])
        clear hm
        by_cases he : z = 0
        · subst he
          go_wp2_with (first
            | (go_at_call 17; refine (MC.out _ HK.out).mono ?_; rintro e w2 ⟨rfl, hk2⟩; have HB2 := Lib.hid (hk2.box HB.out (fun h => h)); have HK2 := Lib.hid (HK.out.trans hk2 (fun _ _ h => h)); clear hk2)
            | fail)
          go_roundw
          case rel => exact ⟨j + 1, by go_num, by omega, by omega, Lib.hid (fun i h1 h2 => if hij : i = j then by rw [hij, ← HZZ.out, HW.out] else HA.out i h1 (by omega)), HB2, HK2⟩
          case measure => simp [intOf]; omega
        · have hne : (z != 0) = true := by simpa using he
          have HNE := Lib.hid he
          clear he
          go_wp2_with (first
            | (go_at_call 17; refine (MC.out _ HK.out).mono ?_; rintro e w2 ⟨rfl, hk2⟩; have HB2 := Lib.hid (hk2.box HB.out (fun h => h)); have HK2 := Lib.hid (HK.out.trans hk2 (fun _ _ h => h)); clear hk2)
            | fail)
          go_ret
          exact ⟨by rw [only_no hj1 (by omega) (by rw [← HZZ.out, HW.out]; exact HNE.out)]; rfl, HK2.out⟩
    · have hltI : ¬ (j : Int) ≤ 3 := by omega
      obtain rfl : j = 4 := by omega
      clear hlt hj4
      go_wp2_with fail
      go_ret
      exact ⟨by rw [only_yes (fun i h1 h2 => HA.out i h1 h2)]; rfl, HK.out⟩
theorem only9_walk (x : R) (v : Value) (m : Nat) (w : World) (hS : RichS w x v) (hc : count x ≤ 40000) (hTB : TabW9 w) (hMB : MayP9 w) :
    Calls Tryd.prog 16 #[v, .int .u8 (m : Int)] w fun e w' => e = .returned (.bool (onlyB x m)) ∧ Kept (fun _ => False) w w' := by
  have hS0 := hS
  obtain ⟨k, d, l⟩ := x
  rw [RichS] at hS
  obtain ⟨ao, cp, rfl, _⟩ := hS
  exact only9_core _ k d _ m w fun wh W hW => may9_walk _ _ wh W (RichS.kept hW _ _ hS0) hc (hTB.kept hW) (hMB.on hW)
set_option maxRecDepth 100000 in
set_option maxHeartbeats 2000000 in
theorem size9_walk : ∀ (x : R) (v : Value) (w : World) (n : Nat), RichS w x v → 1 ≤ n → n ≤ 600 →
    Calls Tryd.prog 47 #[v, .int .i64 (n : Int)] w fun e w' => (∃ s : Nat, e = .returned (.int .i64 (s : Int)) ∧ 1 ≤ s ∧ s ≤ n ∧ (s < n → s = count x)) ∧ Kept (fun _ => False) w w' := by
  refine R.ind fun k d l ih v w n hr hn1 hn6 => ?_
  rw [RichS] at hr
  obtain ⟨ao, cp, rfl, hk, ho, hA⟩ := hr
  have HI := Lib.hid ih
  have HA := Lib.hid hA
  have HCF := Lib.hid (show count (.mk k d l) = 1 + counts l by rw [count])
  have HB := Lib.hid (Box.made w 29 (richA k d (.slice ao l.length cp)))
  clear ih hA
  go_enter Tryd.func47, Tryd.ntmps47
  go_wp2_with fail
  go_loopw [5, 6] (fun v5 v6 wr => ∃ (i c : Nat), v5 = .int .i64 (c : Int) ∧ v6 = .int .i64 (i : Int) ∧ i ≤ l.length ∧ i + 1 ≤ c ∧ c ≤ n ∧ Hid (c < n → c = 1 + counts (l.take i)) ∧ Hid (Box wr w.heap.size 29 (richA k d (.slice ao l.length cp))) ∧ Hid (Kept (fun _ => False) w wr)) (fun _ v6 _ => l.length - (intOf v6).toNat)
  case atStart => exact ⟨0, 1, rfl, rfl, Nat.zero_le _, by omega, hn1, Lib.hid (fun _ => by rw [List.take_zero, counts]), HB, Lib.hid ((Kept.refl _ _).alloc _)⟩
  case round =>
    obtain ⟨i, c, rfl, rfl, hi, hic, hcn, HCi, HBr, HK⟩ := hrel
    rename World => wr
    have b6 : wr.cell? ⟨w.heap.size, 6, none⟩ = some (.slice ao l.length cp) := HBr.out.cell 6
    by_cases hlt : i < l.length
    · have hi0 : (0 : Int) ≤ (i : Int) := by omega
      have hiI : (i : Int) < (l.length : Int) := by omega
      by_cases hcl : c < n
      · obtain ⟨x, hx⟩ : ∃ x, l[i]? = some x := ⟨_, List.getElem?_eq_getElem hlt⟩
        obtain ⟨b, off, ao', cp', rfl, hb, hrx, d0, d1, d2, d3, d4, d5, d6⟩ := (ArgS.kept HK.out ao 0 l HA.out).part hx
        have hct := counts_take hx
        have PC := HI.out x (List.mem_of_getElem? hx) _ wr (n - c) hrx (by omega) (by omega)
        rw [show ((n - c : Nat) : Int) = (n : Int) - (c : Int) by omega] at PC
        have hclI : (c : Int) < (n : Int) := by omega
        have hsub : (n : Int) - (c : Int) ≤ 600 := by omega
        have hsub0 : 0 ≤ (n : Int) - (c : Int) := by omega
        have HCT := Lib.hid hct
        have HCC := Lib.hid (HCi.out hcl)
        clear hx hrx hct
        go_wp2_with (first
          | (go_at_call 47; refine PC.mono ?_; rintro e w5 ⟨⟨s, rfl, hs1, hs2, hs3⟩, hk5⟩; have HK := Lib.hid (Kept.trans HK.out hk5 (fun _ _ h => h)); have HBr := Lib.hid (hk5.box HBr.out (fun h => h)); have HS3 := Lib.hid hs3; clear hk5 hs3)
          | fail)
        go_roundw
        case rel => exact ⟨i + 1, c + s, by go_num, by go_num, by omega, by omega, by omega, Lib.hid (fun h => by rw [HCT.out, HCC.out, HS3.out (by omega)]; have := HCC.out; omega), HBr, HK⟩
        case measure => simp [intOf]; omega
      · have hclI : ¬ (c : Int) < (n : Int) := by omega
        have HF := Lib.hid hcl
        clear hcl
        go_wp2_with fail
        go_ret
        exact ⟨⟨c, rfl, by omega, hcn, fun h => absurd h HF.out⟩, HK.out⟩
    · have hge : ¬ (i : Int) < (l.length : Int) := by omega
      have HF := Lib.hid (show c < n → c = count (.mk k d l) from fun h => by
        rw [HCF.out, HCi.out h, List.take_of_length_le (by omega)])
      clear hlt
      go_wp2_with fail
      go_ret
      exact ⟨⟨c, rfl, by omega, hcn, HF.out⟩, HK.out⟩
set_option maxRecDepth 100000 in
set_option maxHeartbeats 2000000 in
theorem large9_core (x : R) (k : Nat) (d : D) (sl : Value) (w : World) (hSC : ∀ W, Kept (fun _ => False) w W → Calls Tryd.prog 47 #[richV k d sl, .int .i64 600] W fun e w' => (∃ s : Nat, e = .returned (.int .i64 (s : Int)) ∧ 1 ≤ s ∧ s ≤ 600 ∧ (s < 600 → s = count x)) ∧ Kept (fun _ => False) W w') :
    Calls Tryd.prog 23 #[richV k d sl] w fun e w' => (∃ b, e = .returned (.bool b) ∧ (b = false → count x < 600)) ∧ Kept (fun _ => False) w w' := by
  have HSC := Lib.hid hSC
  have HB := Lib.hid (Box.made w 29 (richA k d sl))
  have HK := Lib.hid ((Kept.refl (fun _ => False) w).alloc (.cells (richA k d sl) 29))
  have b0 := HB.out.cell 0
  have b1 := HB.out.cell 1
  have b2 := HB.out.cell 2
  have b3 := HB.out.cell 3
  have b4 := HB.out.cell 4
  have b5 := HB.out.cell 5
  have b6 := HB.out.cell 6
  clear hSC
  go_enter Tryd.func23, Tryd.ntmps23
  go_wp2_with (first
    | (go_at_call 47; refine (HSC.out _ HK.out).mono ?_; rintro e w5 ⟨⟨s, rfl, hs1, hs2, hs3⟩, hk5⟩; have HS3 := Lib.hid hs3; have HK5 := Lib.hid (HK.out.trans hk5 (fun _ _ h => h)); clear hs3 hk5)
    | fail)
  go_ret
  exact ⟨⟨decide ((600 : Int) ≤ (s : Int)), rfl, fun h => by have h6 := of_decide_eq_false h; have h7 := HS3.out (by omega); omega⟩, HK5.out⟩
theorem large9_walk (x : R) (v : Value) (w : World) (hS : RichS w x v) :
    Calls Tryd.prog 23 #[v] w fun e w' => (∃ b, e = .returned (.bool b) ∧ (b = false → count x < 600)) ∧ Kept (fun _ => False) w w' := by
  have hS0 := hS
  obtain ⟨k, d, l⟩ := x
  rw [RichS] at hS
  obtain ⟨ao, cp, rfl, _⟩ := hS
  exact large9_core _ k d _ w fun W hW => size9_walk _ _ W 600 (RichS.kept hW _ _ hS0) (by omega) (Nat.le_refl _)
end Go.Proofs.YtndakcognjaeoaaDoor

namespace Go.Proofs.YtndakcognjaeoaaDoor
open Go.RowKit

theorem count_set_true : ∀ (l : List Bool) (i : Nat), l[i]? = some false → (l.set i true).count false + 1 = l.count false
  | [], i, h => by simp at h
  | b :: l, 0, h => by
    have hb : b = false := by simpa using h
    subst hb
    simp
  | b :: l, i + 1, h => by
    have h1 := count_set_true l i (by simpa using h)
    rw [List.set_cons_succ, List.count_cons, List.count_cons]
    omega
section
variable {P : Program} {ops : Array Oper} {md : Region.Mode} {Q : Exit → Act → World → Prop}
theorem ready_slot {listed : Array Bool} {i : Nat} (hs : listed.size = ops.size) (hi : i ∈ Region.ready md ops listed) : listed.toList[i]? = some false := by
  obtain ⟨h0, o, ho, _⟩ := mem_ready.1 hi
  have hlt : i < listed.size := by rw [hs]; exact (Array.getElem?_eq_some_iff.1 ho).1
  rw [Array.getElem?_toList, Array.getElem?_eq_getElem hlt]
  simpa [hlt] using h0
theorem wpAny_inv (I : Array Bool → Act → World → Prop)
    (hstep : ∀ listed a w i, listed.size = ops.size → i ∈ Region.ready md ops listed → I listed a w → wpOp P ops Q i (fun a' w' => I (listed.setIfInBounds i true) a' w') a w)
    (hend : ∀ listed a w, listed.size = ops.size → Region.ready md ops listed = [] → I listed a w → Q .normal a w) :
    ∀ (fuel : Nat) (listed : Array Bool) (a : Act) (w : World), listed.size = ops.size → listed.toList.count false ≤ fuel → I listed a w → wpAny P md ops Q fuel listed a w := by
  intro fuel
  induction fuel with
  | zero =>
    intro listed a w hs hc h
    have hr : Region.ready md ops listed = [] := by
      apply List.eq_nil_iff_forall_not_mem.2
      intro i hi
      have := List.count_pos_iff.2 (List.mem_of_getElem? (ready_slot hs hi))
      omega
    exact ⟨hr, hend listed a w hs hr h⟩
  | succ fuel ih =>
    intro listed a w hs hc h
    refine ⟨fun hr => hend listed a w hs hr h, fun i hi => wpOp_mono (fun a' w' h' => ih _ a' w' (by simpa using hs) ?_ h') (hstep listed a w i hs hi h)⟩
    have := count_set_true _ i (ready_slot hs hi)
    rw [Array.toList_setIfInBounds]
    omega

def dstOf (ops : Array Oper) (j : Nat) : Option Tmp := (ops[j]?).bind (·.dst)
/-- Does operation o wait for number j? -/
def waitsB (o : Oper) (j : Nat) : Bool := o.after.any fun e => Region.binds .any e && e.on == j
/-- Is slot t nobody's? -/
def nobodyB (l : List Oper) (t : Tmp) : Bool := l.all fun o => o.dst != some t
/-- Each has a slot of its own; each waits for elder ones alone. -/
def invB (n : Nat) : Nat → List Oper → Bool
  | _, [] => true
  | k, o :: l => (match o.dst with | some d => decide (d < n) && nobodyB l d | none => true) && o.after.all (fun e => !Region.binds .any e || decide (e.on < k)) && invB n (k + 1) l
theorem nobody_iff {l : List Oper} {t : Tmp} (h : nobodyB l t = true) : ∀ j, dstOf l.toArray j ≠ some t := by
  intro j hj
  unfold dstOf at hj
  obtain ⟨o, ho, hd⟩ := Option.bind_eq_some_iff.1 hj
  have hm : o ∈ l := List.mem_of_getElem? (by simpa using ho)
  have := List.all_eq_true.1 h o hm
  simp [hd] at this
theorem invB_spec {n : Nat} : ∀ (l : List Oper) (k : Nat), invB n k l = true → ∀ i o, l[i]? = some o → (∀ d, o.dst = some d → d < n ∧ ∀ j p, l[j]? = some p → i < j → p.dst ≠ some d) ∧ ∀ e ∈ o.after, Region.binds .any e = true → e.on < k + i
  | [], _, _, i, o, h => by simp at h
  | o :: l, k, hB, 0, p, h => by
    have hp : o = p := by simpa using h
    subst hp
    simp only [invB, Bool.and_eq_true] at hB
    obtain ⟨⟨h2, h3⟩, _⟩ := hB
    refine ⟨?_, ?_⟩
    · intro d hd
      rw [hd] at h2
      simp only [Bool.and_eq_true, decide_eq_true_eq] at h2
      refine ⟨h2.1, fun j p hj hlt => ?_⟩
      obtain ⟨j, rfl⟩ : ∃ j', j = j' + 1 := ⟨j - 1, by omega⟩
      have hj' : l[j]? = some p := by simpa using hj
      intro hpd
      exact nobody_iff h2.2 j (by unfold dstOf; simp [hj', hpd])
    · intro e he hb
      have := Array.all_eq_true_iff_forall_mem.1 h3 e he
      simp [hb] at this
      omega
  | o :: l, k, hB, i + 1, p, h => by
    simp only [invB, Bool.and_eq_true] at hB
    obtain ⟨g4, g5⟩ := invB_spec l (k + 1) hB.2 i p (by simpa using h)
    refine ⟨fun d hd => ⟨(g4 d hd).1, fun j q hj hlt => ?_⟩, fun e he hb => by have := g5 e he hb; omega⟩
    obtain ⟨j, rfl⟩ : ∃ j', j = j' + 1 := ⟨j - 1, by omega⟩
    exact (g4 d hd).2 j q (by simpa using hj) (by omega)

/-- What is asked of operation o, number i, where it is carried out, slots as in a0 but for what has come up; C: what holds of the world once these have come up; R: what an operation may do. -/
def OpWP (P : Program) (Q : Exit → Act → World → Prop) (S : Nat → World → Value → Prop) (R : World → World → Prop) (C : Array Bool → World → Prop) (l : List Oper) (a0 : Act) (i : Nat) (o : Oper) : Prop :=
  ∀ (listed : Array Bool) (a : Act) (w : World), C listed w → listed.size = l.length → listed.getD i false = false → (∀ j p, l[j]? = some p → waitsB p i = true → listed.getD j false = false) →
    (∀ t v, nobodyB l t = true → a0.tmps.getD t undef = v → a.tmps.getD t undef = v) →
    (∀ j d, waitsB o j = true → dstOf l.toArray j = some d → ∃ v, a.tmps.getD d undef = v ∧ S j w v) →
    ∀ K : Act → World → Prop, (∀ v w', R w w' → C (listed.setIfInBounds i true) w' → (o.dst.isSome = true → S i w' v) → K (a.put o.dst v) w') → o.wp P a w K Q
/-- The same, whether it is carried out or not. -/
def OpOK (P : Program) (Q : Exit → Act → World → Prop) (S : Nat → World → Value → Prop) (R : World → World → Prop) (C : Array Bool → World → Prop) (l : List Oper) (a0 : Act) (i : Nat) (o : Oper) : Prop :=
  ∀ (listed : Array Bool) (a : Act) (w : World), C listed w → listed.size = l.length → listed.getD i false = false → (∀ j p, l[j]? = some p → waitsB p i = true → listed.getD j false = false) →
    (∀ t v, nobodyB l t = true → a0.tmps.getD t undef = v → a.tmps.getD t undef = v) →
    (∀ j d, waitsB o j = true → dstOf l.toArray j = some d → ∃ v, a.tmps.getD d undef = v ∧ S j w v) →
    ∀ K : Act → World → Prop, (∀ v w', R w w' → C (listed.setIfInBounds i true) w' → (o.dst.isSome = true → S i w' v) → K (a.put o.dst v) w') → if Region.wanted o (yielded l.toArray a.tmps) = true then o.wp P a w K Q else K (a.put o.dst undef) w
section
variable {Q : Exit → Act → World → Prop} {S : Nat → World → Value → Prop} {R : World → World → Prop} {C : Array Bool → World → Prop} {l : List Oper} {a0 : Act} {i : Nat} {o : Oper}
theorem OpOK.plain (hg : o.guard = none) (h : OpWP P Q S R C l a0 i o) : OpOK P Q S R C l a0 i o := fun ls a w h1 hz h2 h3 h4 h5 K hK => by
  rw [if_pos (by simp [Region.wanted, hg])]
  exact h ls a w h1 hz h2 h3 h4 h5 K hK
/-- A guard that says yes, whatever the order. -/
theorem OpOK.yes {g d : Nat} {b : Bool} (hg : o.guard = some (g, b)) (hw : waitsB o g = true) (hd : dstOf l.toArray g = some d) (hS : ∀ w v, S g w v → v = .bool b) (h : OpWP P Q S R C l a0 i o) : OpOK P Q S R C l a0 i o := fun ls a w h1 hz h2 h2b h4 h3 K hK => by
  obtain ⟨v, hv, hs⟩ := h3 g d hw hd
  have hb := hS w v hs
  subst hb
  have hy : yielded l.toArray a.tmps g = some b := by
    unfold yielded
    unfold dstOf at hd
    rw [hd]
    rw [Array.getD_eq_getD_getElem?] at hv
    cases ht : a.tmps[d]? with
    | none => rw [ht] at hv; cases hv
    | some u =>
      rw [ht] at hv
      have hu : u = .bool b := hv
      subst hu
      simp [ht]
  rw [if_pos (by simp [Region.wanted, hg, hy])]
  exact h ls a w h1 hz h2 h2b h4 h3 K hK
end
def OpsOK (P : Program) (Q : Exit → Act → World → Prop) (S : Nat → World → Value → Prop) (R : World → World → Prop) (C : Array Bool → World → Prop) (l : List Oper) (a0 : Act) : Nat → List Oper → Prop
  | _, [] => True
  | i, o :: r => OpOK P Q S R C l a0 i o ∧ OpsOK P Q S R C l a0 (i + 1) r
theorem OpsOK.at {Q : Exit → Act → World → Prop} {S : Nat → World → Value → Prop} {R : World → World → Prop} {C : Array Bool → World → Prop} {l : List Oper} {a0 : Act} : ∀ (r : List Oper) (k : Nat), OpsOK P Q S R C l a0 k r → ∀ i o, r[i]? = some o → OpOK P Q S R C l a0 (k + i) o
  | [], _, _, i, o, h => by simp at h
  | p :: r, k, hh, 0, o, h => by
    have : p = o := by simpa using h
    subst this
    exact hh.1
  | p :: r, k, hh, i + 1, o, h => by
    have := OpsOK.at r (k + 1) hh.2 i o (by simpa using h)
    rwa [show k + 1 + i = k + (i + 1) by omega] at this
/-- What is asked behind the region: for whatever values of these kinds. -/
def EndsP (Q : Exit → Act → World → Prop) (S : Nat → World → Value → Prop) (w : World) : Nat → List Oper → Act → Prop
  | _, [], a => Q .normal a w
  | k, o :: r, a => match o.dst with
    | some d => ∀ v, S k w v → EndsP Q S w (k + 1) r (a.put (some d) v)
    | none => EndsP Q S w (k + 1) r a
structure InvS (l : List Oper) (S : Nat → World → Value → Prop) (C : Array Bool → World → Prop) (a0 : Act) (listed : Array Bool) (a : Act) (w : World) : Prop where
  cls : C listed w
  defers : a.defers = a0.defers
  size : a.tmps.size = a0.tmps.size
  same : ∀ t, nobodyB l t = true → a.tmps[t]? = a0.tmps[t]?
  slot : ∀ j d, dstOf l.toArray j = some d → listed.getD j false = true → ∃ v, a.tmps[d]? = some v ∧ S j w v
  closed : ∀ j o, l[j]? = some o → listed.getD j false = true → ∀ e ∈ o.after, Region.binds .any e = true → listed.getD e.on false = true
/-- The frame at the end, slot by slot. -/
theorem ends_of {Q : Exit → Act → World → Prop} {S : Nat → World → Value → Prop} {w : World} : ∀ (r : List Oper) (k : Nat) (a a' : Act) (n : Nat), EndsP Q S w k r a → invB n k r = true → n = a.tmps.size →
    a'.defers = a.defers → a'.tmps.size = a.tmps.size → (∀ t, nobodyB r t = true → a'.tmps[t]? = a.tmps[t]?) → (∀ i d, dstOf r.toArray i = some d → ∃ v, a'.tmps[d]? = some v ∧ S (k + i) w v) → Q .normal a' w
  | [], k, a, a', n, h, _, _, hd, hz, hs, _ => by
    have e : a' = a := by
      obtain ⟨T, D⟩ := a
      obtain ⟨T', D'⟩ := a'
      simp only at hd hz hs
      subst hd
      have : T' = T := Array.ext_getElem? fun t => hs t rfl
      rw [this]
    rw [e]
    exact h
  | o :: r, k, a, a', n, h, hB, hn, hd, hz, hs, hv => by
    simp only [invB, Bool.and_eq_true] at hB
    obtain ⟨⟨h2, _⟩, hB'⟩ := hB
    rw [EndsP] at h
    cases hod : o.dst with
    | none =>
      rw [hod] at h
      refine ends_of r (k + 1) a a' n h hB' hn hd hz (fun t ht => hs t ?_) (fun i e hi => ?_)
      · unfold nobodyB at ht ⊢
        simp only [List.all_cons, Bool.and_eq_true]
        exact ⟨by rw [hod]; rfl, ht⟩
      · obtain ⟨u, hu1, hu2⟩ := hv (i + 1) e (by unfold dstOf at hi ⊢; simpa using hi)
        exact ⟨u, hu1, by rwa [show k + 1 + i = k + (i + 1) by omega]⟩
    | some d =>
      rw [hod] at h2 h
      simp only [Bool.and_eq_true, decide_eq_true_eq] at h2
      obtain ⟨v, hv1, hv2⟩ := hv 0 d (by unfold dstOf; simp [hod])
      have h1 := h v (by simpa using hv2)
      refine ends_of r (k + 1) _ a' n h1 hB' (by rw [hn]; simp [Act.put]) hd (by rw [hz]; simp [Act.put]) (fun t ht => ?_) (fun i e hi => ?_)
      · by_cases htd : t = d
        · subst htd
          rw [hv1]
          simp only [Act.put]
          rw [Array.getElem?_setIfInBounds_self_of_lt (by have h9 := h2.1; rw [hn] at h9; exact h9)]
        · have : nobodyB (o :: r) t = true := by
            unfold nobodyB at ht ⊢
            simp only [List.all_cons, Bool.and_eq_true]
            exact ⟨by rw [hod]; simpa using fun e => htd e.symm, ht⟩
          rw [hs t this]
          simp only [Act.put]
          rw [Array.getElem?_setIfInBounds_ne (fun e => htd e.symm)]
      · obtain ⟨u, hu1, hu2⟩ := hv (i + 1) e (by unfold dstOf at hi ⊢; simpa using hi)
        exact ⟨u, hu1, by rwa [show k + 1 + i = k + (i + 1) by omega]⟩
end
/-- **One goal for each operation**: of what values it makes, for whatever values of their kinds the others have made; and one for what stands behind. -/
theorem wp_region_inv {P : Program} {Q : Exit → Act → World → Prop} {id : Nat} {l : List Oper} {a0 : Act} {w0 : World} (S : Nat → World → Value → Prop) (R : World → World → Prop) (C : Array Bool → World → Prop) (hm : P.follows .mixedOrders = true) (hB : invB a0.tmps.size 0 l = true)
    (hC : C (Array.replicate l.toArray.size false) w0.drew) (hst : ∀ j w w' v, R w w' → S j w v → S j w' v) (hops : OpsOK P Q S R C l a0 0 l)
    (hend : ∀ listed w, (∀ i, i < l.length → listed.getD i false = true) → C listed w → EndsP Q S w 0 l a0) : (Code.region id l.toArray true).wp P Q a0 w0 := by
  have hsp := invB_spec l 0 hB
  refine wp_region_any hm (wpAny_inv (InvS l S C a0) ?_ ?_ _ _ _ _ (by simp) (by simp) ?_)
  · intro listed a w i hs hi hI
    obtain ⟨h0, o, ho, hall⟩ := mem_ready.1 hi
    have ho' : l[i]? = some o := by simpa using ho
    have hil : i < listed.size := by rw [hs]; exact (Array.getElem?_eq_some_iff.1 ho).1
    have h0f : listed.getD i false = false := by simpa [hil] using h0
    obtain ⟨hdd, hback⟩ := hsp i o ho'
    have hok := OpsOK.at l 0 hops i o ho'
    rw [Nat.zero_add] at hok
    refine wpOp_step ho fun K' hK' => hok listed a w hI.cls (by rw [hs]; simp) h0f (fun j p hj hw => ?_) (fun t v ht h => ?_) (fun j e hw he => ?_) _ fun v w' hR hc hv => hK' _ _ ?_
    · cases hlj : listed.getD j false with
      | false => rfl
      | true =>
        unfold waitsB at hw
        obtain ⟨ed, hed, hb⟩ := Array.any_eq_true'.1 hw
        simp only [Bool.and_eq_true, beq_iff_eq] at hb
        have := hI.closed j p hj hlj ed hed hb.1
        rw [hb.2, h0f] at this
        cases this
    · rw [← h, Array.getD_eq_getD_getElem?, Array.getD_eq_getD_getElem?, hI.same t ht]
    · unfold waitsB at hw
      obtain ⟨ed, hed, hb⟩ := Array.any_eq_true'.1 hw
      simp only [Bool.and_eq_true, beq_iff_eq] at hb
      obtain ⟨u, hu1, hu2⟩ := hI.slot j e he (by rw [← hb.2]; exact hall ed hed hb.1)
      exact ⟨u, by rw [Array.getD_eq_getD_getElem?, hu1]; rfl, hu2⟩
    · have hnot : ∀ t, nobodyB l t = true → o.dst ≠ some t := fun t ht hd => nobody_iff ht i (by unfold dstOf; simp [ho', hd])
      have hput : ∀ t, o.dst ≠ some t → (a.put o.dst v).tmps[t]? = a.tmps[t]? := fun t ht => by
        cases hd : o.dst with
        | none => rfl
        | some d =>
          simp only [Act.put]
          rw [Array.getElem?_setIfInBounds_ne (fun e => ht (by rw [hd, e]))]
      have hsz : (a.put o.dst v).tmps.size = a.tmps.size := by cases o.dst <;> simp [Act.put]
      refine ⟨hc, by rw [← hI.defers]; cases o.dst <;> rfl, by rw [hsz]; exact hI.size, fun t ht => (hput t (hnot t ht)).trans (hI.same t ht), fun j e he hl => ?_, fun j p hj hl ed hed hb => ?_⟩
      · by_cases hji : j = i
        · subst hji
          have hed : o.dst = some e := by unfold dstOf at he; simp [ho'] at he; exact he
          refine ⟨v, ?_, hv (by rw [hed]; rfl)⟩
          rw [hed]
          simp only [Act.put]
          rw [Array.getElem?_setIfInBounds_self_of_lt (by rw [hI.size]; exact (hdd e hed).1)]
        · rw [getD_set_ne false (Ne.symm hji)] at hl
          obtain ⟨u, hu1, hu2⟩ := hI.slot j e he hl
          refine ⟨u, ?_, hst j w w' u hR hu2⟩
          refine (hput e (fun hd => ?_)).trans hu1
          unfold dstOf at he
          obtain ⟨p, hp, hpd⟩ := Option.bind_eq_some_iff.1 he
          have hp' : l[j]? = some p := by simpa using hp
          rcases Nat.lt_or_ge i j with hlt | hge
          · exact (hdd e hd).2 j p hp' hlt hpd
          · exact ((hsp j p hp').1 e hpd).2 i o ho' (by omega) hd
      · by_cases hji : j = i
        · subst hji
          rw [ho'] at hj
          injection hj with hj
          subst hj
          exact getD_set_true (hall ed hed hb)
        · rw [getD_set_ne false (Ne.symm hji)] at hl
          exact getD_set_true (hI.closed j p hj hl ed hed hb)
  · intro listed a w hs hr hI
    have hallL : ∀ i, i < l.length → listed.getD i false = true := by
      intro i
      induction i using Nat.strongRecOn with
      | _ i ih =>
        intro hi
        by_cases hli : listed.getD i false = true
        · exact hli
        · exfalso
          obtain ⟨o, ho⟩ : ∃ o, l[i]? = some o := ⟨_, List.getElem?_eq_getElem hi⟩
          obtain ⟨_, hback⟩ := hsp i o ho
          have hmem : i ∈ Region.ready .any l.toArray listed := mem_ready.2 ⟨by
            have hlt : i < listed.size := by rw [hs]; simpa using hi
            simp [hlt] at hli ⊢
            exact hli, o, by simpa using ho, fun e he hb => ih e.on (by have := hback e he hb; omega) (by have := hback e he hb; omega)⟩
          rw [hr] at hmem
          cases hmem
    refine ends_of l 0 a0 a _ (hend listed w hallL hI.cls) hB rfl hI.defers hI.size hI.same (fun i d hd => ?_)
    have hi : i < l.length := by
      unfold dstOf at hd
      obtain ⟨p, hp, _⟩ := Option.bind_eq_some_iff.1 hd
      have := (Array.getElem?_eq_some_iff.1 hp).1
      simpa using this
    rw [Nat.zero_add]
    exact hI.slot i d hd (hallL i hi)
  · have hno : ∀ j, (Array.replicate l.toArray.size false).getD j false = false := fun j => by
      rcases Nat.lt_or_ge j l.length with hj | hj
      · simp [hj]
      · simp [Nat.not_lt.2 hj]
    exact ⟨hC, rfl, rfl, fun _ _ => rfl, (fun j d _ h => by rw [hno] at h; cases h), (fun j o _ h => by rw [hno] at h; cases h)⟩
end Go.Proofs.YtndakcognjaeoaaDoor
