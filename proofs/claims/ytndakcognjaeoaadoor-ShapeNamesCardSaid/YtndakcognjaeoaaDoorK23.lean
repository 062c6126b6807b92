/-
  The walk over the document's May (layer 9). The walk over the document's Atoms (layer 9). The walk over the document's Same (layer 9). The walk over the program's Same (layer 9). The walks over the document's counts of layer 8: how many parts, how deep. Conditions: as each theorem states.
-/
import Derived.Test.YtndakcognjaeoaaDoorK22
import Derived.Test.YtndakcognjaeoaaDoorK11
import Derived.Test.YtndakcognjaeoaaDoorK20
import Derived.Test.YtndakcognjaeoaaDoorK19
import Derived.Shelf.Abstract
import Derived.Test.YtndakcognjaeoaaDoorK04
import Derived.Test.YtndakcognjaeoaaDoorRows
import Derived.Handy
import Derived.Lib.Hide
import Derived.LoopN
import Derived.Deep.QuietTactic
namespace Go.Proofs.YtndakcognjaeoaaDoor
open Go.RowKit Ver Evr Span Dep Rich

set_option maxRecDepth 100000 in
set_option maxHeartbeats 2000000 in
theorem mayR9_core (k : Nat) (d : D) (sl : Value) (wh : Nat) (Z : Bool) (cn dp : Nat) (ans : Int) (w : World) (CL0 : K9 w 26 #[richV k d sl] (.int .i64 (cn : Int))) (CD0 : K9 w 27 #[richV k d sl] (.int .i64 (dp : Int)))
    (CF0 : K9 w 48 #[richV k d sl, .int .u8 (wh : Int), .bool false] (.bool Z)) (ha : ans = if wh < 1 ∨ 3 < wh then 1 else if 24 < cn then 40 else if 8 < dp then 21 else if Z = true then 0 else 4) :
    Calls Tryd.prog 25 #[richV k d sl, .int .u8 (wh : Int)] w fun e w' => e = .returned (.int .i64 ans) ∧ Kept (fun _ => False) w w' := by
  have CL := Lib.hid CL0
  have CD := Lib.hid CD0
  have CF := Lib.hid CF0
  have HB := Lib.hid (Box.made w 29 (richA k d sl))
  have HK := Lib.hid ((Kept.refl (fun _ => False) w).alloc (.cells (richA k d sl) 29))
  have b0 := HB.out.cell 0
  have b1 := HB.out.cell 1
  have b2 := HB.out.cell 2
  have b3 := HB.out.cell 3
  have b4 := HB.out.cell 4
  have b5 := HB.out.cell 5
  have b6 := HB.out.cell 6
  clear CL0 CD0 CF0
  by_cases h1 : wh < 1
  · have HA := Lib.hid (show ans = 1 by rw [ha, if_pos (.inl h1)])
    have g1 : (wh : Int) < 1 := by omega
    clear ha h1
    go_enter Tryd.func25, Tryd.ntmps25
    go_wp2_with (first
      | fail)
    go_ret
    exact ⟨by rw [HA.out]; rfl, HK.out⟩
  by_cases h3 : 3 < wh
  · have HA := Lib.hid (show ans = 1 by rw [ha, if_pos (.inr h3)])
    have g1 : ¬ (wh : Int) < 1 := by omega
    have g3 : (3 : Int) < (wh : Int) := by omega
    clear ha h1 h3
    go_enter Tryd.func25, Tryd.ntmps25
    go_wp2_with (first
      | fail)
    go_ret
    exact ⟨by rw [HA.out]; rfl, HK.out⟩
  have g1 : ¬ (wh : Int) < 1 := by omega
  have g3 : ¬ (3 : Int) < (wh : Int) := by omega
  rw [if_neg (by omega)] at ha
  clear h1 h3
  by_cases hL : 24 < cn
  · have HA := Lib.hid (show ans = 40 by rw [ha, if_pos hL])
    have gL : (24 : Int) < (cn : Int) := by omega
    clear ha hL
    go_enter Tryd.func25, Tryd.ntmps25
    go_wp2_with (first
      | (go_at_call 26; refine (CL.out _ HK.out).mono ?_; rintro e w1 ⟨rfl, hk1⟩; have HB := Lib.hid (hk1.box HB.out (fun h => h)); have HK := Lib.hid (HK.out.trans hk1 (fun _ _ h => h)); have b0 := HB.out.cell 0; have b1 := HB.out.cell 1; have b2 := HB.out.cell 2; have b3 := HB.out.cell 3; have b4 := HB.out.cell 4; have b5 := HB.out.cell 5; have b6 := HB.out.cell 6; clear hk1)
      | fail)
    go_ret
    exact ⟨by rw [HA.out]; rfl, HK.out⟩
  · have gL : ¬ (24 : Int) < (cn : Int) := by omega
    rw [if_neg hL] at ha
    clear hL
    by_cases h8 : 8 < dp
    · have HA := Lib.hid (show ans = 21 by rw [ha, if_pos h8])
      have g8 : (8 : Int) < (dp : Int) := by omega
      clear ha h8
      go_enter Tryd.func25, Tryd.ntmps25
      go_wp2_with (first
        | (go_at_call 26; refine (CL.out _ HK.out).mono ?_; rintro e w1 ⟨rfl, hk1⟩; have HB := Lib.hid (hk1.box HB.out (fun h => h)); have HK := Lib.hid (HK.out.trans hk1 (fun _ _ h => h)); have b0 := HB.out.cell 0; have b1 := HB.out.cell 1; have b2 := HB.out.cell 2; have b3 := HB.out.cell 3; have b4 := HB.out.cell 4; have b5 := HB.out.cell 5; have b6 := HB.out.cell 6; clear hk1)
        | (go_at_call 27; refine (CD.out _ HK.out).mono ?_; rintro e w2 ⟨rfl, hk2⟩; have HB := Lib.hid (hk2.box HB.out (fun h => h)); have HK := Lib.hid (HK.out.trans hk2 (fun _ _ h => h)); have b0 := HB.out.cell 0; have b1 := HB.out.cell 1; have b2 := HB.out.cell 2; have b3 := HB.out.cell 3; have b4 := HB.out.cell 4; have b5 := HB.out.cell 5; have b6 := HB.out.cell 6; clear hk2)
        | fail)
      go_ret
      exact ⟨by rw [HA.out]; rfl, HK.out⟩
    · have g8 : ¬ (8 : Int) < (dp : Int) := by omega
      rw [if_neg h8] at ha
      clear h8
      cases Z with
      | true =>
        have HA := Lib.hid (show ans = 0 by rw [ha, if_pos rfl])
        clear ha
        go_enter Tryd.func25, Tryd.ntmps25
        go_wp2_with (first
          | (go_at_call 26; refine (CL.out _ HK.out).mono ?_; rintro e w1 ⟨rfl, hk1⟩; have HB := Lib.hid (hk1.box HB.out (fun h => h)); have HK := Lib.hid (HK.out.trans hk1 (fun _ _ h => h)); have b0 := HB.out.cell 0; have b1 := HB.out.cell 1; have b2 := HB.out.cell 2; have b3 := HB.out.cell 3; have b4 := HB.out.cell 4; have b5 := HB.out.cell 5; have b6 := HB.out.cell 6; clear hk1)
          | (go_at_call 27; refine (CD.out _ HK.out).mono ?_; rintro e w2 ⟨rfl, hk2⟩; have HB := Lib.hid (hk2.box HB.out (fun h => h)); have HK := Lib.hid (HK.out.trans hk2 (fun _ _ h => h)); have b0 := HB.out.cell 0; have b1 := HB.out.cell 1; have b2 := HB.out.cell 2; have b3 := HB.out.cell 3; have b4 := HB.out.cell 4; have b5 := HB.out.cell 5; have b6 := HB.out.cell 6; clear hk2)
          | (go_at_call 48; refine (CF.out _ HK.out).mono ?_; rintro e w3 ⟨rfl, hk3⟩; have HB := Lib.hid (hk3.box HB.out (fun h => h)); have HK := Lib.hid (HK.out.trans hk3 (fun _ _ h => h)); have b0 := HB.out.cell 0; have b1 := HB.out.cell 1; have b2 := HB.out.cell 2; have b3 := HB.out.cell 3; have b4 := HB.out.cell 4; have b5 := HB.out.cell 5; have b6 := HB.out.cell 6; clear hk3)
          | fail)
        go_ret
        exact ⟨by rw [HA.out]; rfl, HK.out⟩
      | false =>
        have HA := Lib.hid (show ans = 4 by rw [ha, if_neg (by simp)])
        clear ha
        go_enter Tryd.func25, Tryd.ntmps25
        go_wp2_with (first
          | (go_at_call 26; refine (CL.out _ HK.out).mono ?_; rintro e w1 ⟨rfl, hk1⟩; have HB := Lib.hid (hk1.box HB.out (fun h => h)); have HK := Lib.hid (HK.out.trans hk1 (fun _ _ h => h)); have b0 := HB.out.cell 0; have b1 := HB.out.cell 1; have b2 := HB.out.cell 2; have b3 := HB.out.cell 3; have b4 := HB.out.cell 4; have b5 := HB.out.cell 5; have b6 := HB.out.cell 6; clear hk1)
          | (go_at_call 27; refine (CD.out _ HK.out).mono ?_; rintro e w2 ⟨rfl, hk2⟩; have HB := Lib.hid (hk2.box HB.out (fun h => h)); have HK := Lib.hid (HK.out.trans hk2 (fun _ _ h => h)); have b0 := HB.out.cell 0; have b1 := HB.out.cell 1; have b2 := HB.out.cell 2; have b3 := HB.out.cell 3; have b4 := HB.out.cell 4; have b5 := HB.out.cell 5; have b6 := HB.out.cell 6; clear hk2)
          | (go_at_call 48; refine (CF.out _ HK.out).mono ?_; rintro e w3 ⟨rfl, hk3⟩; have HB := Lib.hid (hk3.box HB.out (fun h => h)); have HK := Lib.hid (HK.out.trans hk3 (fun _ _ h => h)); have b0 := HB.out.cell 0; have b1 := HB.out.cell 1; have b2 := HB.out.cell 2; have b3 := HB.out.cell 3; have b4 := HB.out.cell 4; have b5 := HB.out.cell 5; have b6 := HB.out.cell 6; clear hk3)
          | fail)
        go_ret
        exact ⟨by rw [HA.out]; rfl, HK.out⟩
/-- What the document's May answers. -/
theorem mayR9_walk (x : R) (v : Value) (wh : Nat) (w : World) (hS : RichS w x v) (hf : fitsX x) (hc : count x ≤ 40000) :
    Calls Tryd.prog 25 #[v, .int .u8 (wh : Int)] w fun e w' => e = .returned (.int .i64 (mayS x wh)) ∧ Kept (fun _ => False) w w' := by
  have hS0 := hS
  obtain ⟨k, d, l⟩ := x
  rw [RichS] at hS
  obtain ⟨ao, cp, rfl, _⟩ := hS
  refine mayR9_core k d _ wh (fitsS wh false (.mk k d l)) (count (.mk k d l)) (deep (.mk k d l)) _ w (fun W hW => countR9_walk _ _ W (RichS.kept hW _ _ hS0) hc) (fun W hW => depthR9_walk _ _ W (RichS.kept hW _ _ hS0) hc) (fun W hW => fitsR9_main w (mayR9_of w) wh _ _ W false hW (RichS.kept hW _ _ hS0) hf) rfl
end Go.Proofs.YtndakcognjaeoaaDoor

namespace Go.Proofs.YtndakcognjaeoaaDoor
open Go.RowKit Ver Evr Span Dep Rich

set_option maxRecDepth 100000 in
set_option maxHeartbeats 8000000 in
theorem atomsR9_walk : ∀ (x : R) (v : Value) (w : World), RichS w x v → count x ≤ 1000 →
    Calls Tryd.prog 29 #[v] w fun e w' => (∃ v', e = .returned v' ∧ DepsS w' v' (atomsS x)) ∧ Kept (fun _ => False) w w' := by
  obtain ⟨i0, hi, hz0, hz1, hz2⟩ := info_get9 info_dep9
  refine R.ind fun k d l ih v w hr hc => ?_
  rw [RichS] at hr
  obtain ⟨ao, cp, rfl, hk, ho, hA⟩ := hr
  have HA := Lib.hid hA
  have HI := Lib.hid ih
  have HCL := Lib.hid (show 1 + counts l ≤ 1000 by rw [count] at hc; exact hc)
  have HB := Lib.hid (Box.made w 29 (richA k d (.slice ao l.length cp)))
  have HK := Lib.hid ((Kept.refl (fun _ => False) w).alloc (.cells (richA k d (.slice ao l.length cp)) 29))
  have b0 := HB.out.cell 0
  have b1 := HB.out.cell 1
  have b2 := HB.out.cell 2
  have b3 := HB.out.cell 3
  have b4 := HB.out.cell 4
  have b5 := HB.out.cell 5
  have b6 := HB.out.cell 6
  clear hA ih hc
  go_enter Tryd.func29, Tryd.ntmps29
  by_cases hk1 : k = 1
  · have hkb : ((k : Int) == 1) = true := by simp; omega
    have HA0 := Lib.hid (show (if k = 1 then [d] else []) = [d] by rw [if_pos hk1])
    clear hk1
    go_wp2_with (first
      | (at_builtin; (refine wpList_append_own_at _ rfl _ _ 39 rfl (w.heap.size + 1) 26 i0 (.agg #[.string ⟨#[]⟩, .int .u8 0, .int .i64 0, .string ⟨#[]⟩, .string ⟨#[]⟩]) 5 64 Tryd.underlying39 hi hz0 hz1 hz2 rfl (by decide) (.slice none 0 0) 0 [] rfl (World.ownsRow_nil _ _ _ _) ⟨w.heap.size + 1, 0, none⟩ 1 1 (cellsD9 [d]) rfl rfl (one_dep9 (show Box ((w.alloc (.cells (richA k d (.slice ao l.length cp)) 29)).alloc (.cells (depA d) 26)) (w.heap.size + 1) 26 (depA d) from by have h := Box.made (w.alloc (.cells (richA k d (.slice ao l.length cp)) 29)) 26 (depA d); rw [World.size_alloc] at h; exact h)) (cellsD9_one _) (by show _ ≤ 9223372036854775807; omega) (by omega) (by have := HB.out.lt; simp <;> omega) ?_; intro v9 w9 hown9 hgrow9 _ hblk9; obtain ⟨a9, c9, e9⟩ := own_form hown9; subst e9; have HO9 := Lib.hid hown9; have HK9 := Lib.hid ((HK.out.alloc (.cells (depA d) 26)).grown hgrow9 (fun j hj => by simp [Value.ownBlock] at hj)); have HB9 := Lib.hid ((HB.out.after_alloc (.cells (depA d) 26)).grownNone9 hgrow9); clear hown9 hgrow9 hblk9))
      | fail)
    have HO0 : w9.ownsRow (w.heap.size + 1) 26 5 (.slice a9 [d].length c9) [d].length (cellsD9 [d]) := HO9.out
    repeat clear HB
    repeat clear HK
    have HB := HB9
    have HK := HK9
    clear HB9 HK9 b0 b1 b2 b3 b4 b5 b6
    go_loopw [3, 4] (fun v3 v4 wr => ∃ (i : Nat) (aa : Option Addr) (ca : Nat) (LA : List D), v3 = .slice aa LA.length ca ∧ LA.length ≤ 1000 ∧ Hid (LA = [d] ++ atomsSL (l.take i)) ∧ v4 = .int .i64 (i : Int) ∧ i ≤ l.length ∧ Hid (wr.ownsRow (w.heap.size + 1) 26 5 (.slice aa LA.length ca) LA.length (cellsD9 LA)) ∧ Hid (Box wr w.heap.size 29 (richA k d (.slice ao l.length cp))) ∧ Hid (Kept (fun _ => False) w wr)) (fun _ v4 _ => l.length - (intOf v4).toNat)
    case atStart => exact ⟨0, _, _, [d], rfl, by simp, Lib.hid (by rw [List.take_zero, atomsSL, List.append_nil]), rfl, Nat.zero_le _, Lib.hid HO0, HB, HK⟩
    case round =>
      repeat clear HB
      repeat clear HK
      obtain ⟨i, aa, ca, LA, rfl, hla, HLA, rfl, hil, HO, HB, HK⟩ := hrel
      rename World => wr
      have b6 : wr.cell? ⟨w.heap.size, 6, none⟩ = some (.slice ao l.length cp) := HB.out.cell 6
      have hws := HK.out.size
      have hlI : (l.length : Int) ≤ 1000 := by have := counts_len l; have := HCL.out; omega
      by_cases hlt : i < l.length
      · obtain ⟨x, hx⟩ : ∃ x, l[i]? = some x := ⟨_, List.getElem?_eq_getElem hlt⟩
        obtain ⟨b, off, ao', cp', rfl, hb, hrx, d0, d1, d2, d3, d4, d5, d6⟩ := (ArgS.kept HK.out _ 0 l HA.out).part hx
        have hct := counts_take hx
        have hcl := counts_take_le l (i + 1)
        have hcp := count_pos x
        have HAT := Lib.hid (atomsSL_take hx)
        have HXL := Lib.hid (atomsS_len x)
        have hcx : count x ≤ 1000 := by have := HCL.out; omega
        have hxc : (atomsS x).length ≤ 1000 := by have := HXL.out; omega
        have AC := HI.out x (List.mem_of_getElem? hx) _ wr hrx hcx
        obtain ⟨LX, hLX⟩ : ∃ LX, LX = atomsS x := ⟨_, rfl⟩
        rw [← hLX] at AC hxc
        have HLX := Lib.hid hLX
        have hi0 : (0 : Int) ≤ (i : Int) := by omega
        have hiI : (i : Int) < (l.length : Int) := by omega
        clear hrx hct hcl hcp hx hLX hcx
        go_wp2_with fail
        refine AC.mono ?_
        rintro e w5 ⟨⟨v5, rfl, ho5⟩, hk5⟩
        have hd50 := ho5
        obtain ⟨a5, c5, rfl, _⟩ := hd50
        have hd5 := deps_src ho5
        have HO5 := Lib.hid (hk5.owns HO.out (fun _ _ h => h))
        have HB5 := Lib.hid (hk5.box HB.out (fun h => h))
        have HK5 := Lib.hid (HK.out.trans hk5 (fun _ _ h => h))
        have hw5 := HB5.out.lt
        have HLN := Lib.hid (show LA ++ LX = [d] ++ atomsSL (l.take (i + 1)) by rw [HLA.out, HLX.out, HAT.out]; simp)
        have hle : (LA ++ LX).length ≤ 1000 := by
          rw [HLN.out, List.length_append]
          have h2 : (atomsSL (l.take (i + 1))).length ≤ counts (l.take (i + 1)) := atomsSL_le _
          have h3 := counts_take_le l (i + 1)
          have h4 := HCL.out
          have h5 : ([d] : List D).length ≤ 1 := by simp
          omega
        clear ho5 hk5 AC
        go_wp2_with (first
          | (at_builtin; (refine wpList_append_src rfl _ _ 39 rfl (w.heap.size + 1) 26 i0 (.agg #[.string ⟨#[]⟩, .int .u8 0, .int .i64 0, .string ⟨#[]⟩, .string ⟨#[]⟩]) 5 64 Tryd.underlying39 hi hz0 hz1 hz2 rfl (by decide) (.slice aa LA.length ca) _ _ rfl HO5.out a5 LX.length c5 (cellsD9 LX) rfl hd5.1 (cellsD9_len _) hd5.2.2 (cellsD9_one _) (by show _ ≤ 9223372036854775807; omega) (by omega) (by omega) ?_; intro v9 w9 hown9 hgrow9 hblk9; rw [← cellsD9_app] at hown9; obtain ⟨a9, c9, e9⟩ := own_form hown9; subst e9; have HO9 := Lib.hid hown9; have HK9 := Lib.hid (HK5.out.grown hgrow9 (fun j hj => .inr (by have := (HO5.out.lt j hj).1; omega))); have HB9 := Lib.hid ((Kept.grown (Kept.refl (fun b => w.heap.size + 1 ≤ b) w5) hgrow9 (fun j hj => .inl (HO5.out.lt j hj).1)).box HB5.out (by omega)); clear hown9 hgrow9 hblk9))
          | fail)
        go_roundw
        case rel => first | exact ⟨i + 1, a9, c9, LA ++ LX, (by rw [List.length_append]), hle, HLN, by go_num, by omega, (by rw [List.length_append]; exact HO9), HB9, HK9⟩ | ((repeat apply Exists.intro); refine ⟨?_, rfl⟩; exact ⟨i + 1, a9, c9, LA ++ LX, (by rw [List.length_append]), hle, HLN, by go_num, by omega, (by rw [List.length_append]; exact HO9), HB9, HK9⟩)
        case measure => first | (simp [intOf]; done) | (simp [intOf]; omega)
      · obtain rfl : i = l.length := by omega
        have hge : ¬ (l.length : Int) < (l.length : Int) := by omega
        have HE := Lib.hid (show [d] ++ atomsSL (l.take l.length) = atomsS (.mk k d l) by rw [List.take_length, atomsS, HA0.out])
        obtain rfl : LA = atomsS (.mk k d l) := HLA.out.trans HE.out
        clear hlt hil
        go_wp2_with fail
        go_ret
        exact ⟨⟨_, rfl, own_deps9 HO.out⟩, HK.out⟩
  · have hkb : ((k : Int) == 1) = false := by simp; omega
    have HA0 := Lib.hid (show (if k = 1 then [d] else []) = ([] : List D) by rw [if_neg hk1])
    have HO0 := World.ownsRow_nil (w.alloc (.cells (richA k d (.slice ao l.length cp)) 29)) (w.heap.size + 1) 26 5
    clear hk1
    go_wp2_with fail
    go_loopw [3, 4] (fun v3 v4 wr => ∃ (i : Nat) (aa : Option Addr) (ca : Nat) (LA : List D), v3 = .slice aa LA.length ca ∧ LA.length ≤ 1000 ∧ Hid (LA = ([] : List D) ++ atomsSL (l.take i)) ∧ v4 = .int .i64 (i : Int) ∧ i ≤ l.length ∧ Hid (wr.ownsRow (w.heap.size + 1) 26 5 (.slice aa LA.length ca) LA.length (cellsD9 LA)) ∧ Hid (Box wr w.heap.size 29 (richA k d (.slice ao l.length cp))) ∧ Hid (Kept (fun _ => False) w wr)) (fun _ v4 _ => l.length - (intOf v4).toNat)
    case atStart => exact ⟨0, _, _, ([] : List D), rfl, by simp, Lib.hid (by rw [List.take_zero, atomsSL, List.append_nil]), rfl, Nat.zero_le _, Lib.hid HO0, HB, HK⟩
    case round =>
      repeat clear HB
      repeat clear HK
      obtain ⟨i, aa, ca, LA, rfl, hla, HLA, rfl, hil, HO, HB, HK⟩ := hrel
      rename World => wr
      have b6 : wr.cell? ⟨w.heap.size, 6, none⟩ = some (.slice ao l.length cp) := HB.out.cell 6
      have hws := HK.out.size
      have hlI : (l.length : Int) ≤ 1000 := by have := counts_len l; have := HCL.out; omega
      by_cases hlt : i < l.length
      · obtain ⟨x, hx⟩ : ∃ x, l[i]? = some x := ⟨_, List.getElem?_eq_getElem hlt⟩
        obtain ⟨b, off, ao', cp', rfl, hb, hrx, d0, d1, d2, d3, d4, d5, d6⟩ := (ArgS.kept HK.out _ 0 l HA.out).part hx
        have hct := counts_take hx
        have hcl := counts_take_le l (i + 1)
        have hcp := count_pos x
        have HAT := Lib.hid (atomsSL_take hx)
        have HXL := Lib.hid (atomsS_len x)
        have hcx : count x ≤ 1000 := by have := HCL.out; omega
        have hxc : (atomsS x).length ≤ 1000 := by have := HXL.out; omega
        have AC := HI.out x (List.mem_of_getElem? hx) _ wr hrx hcx
        obtain ⟨LX, hLX⟩ : ∃ LX, LX = atomsS x := ⟨_, rfl⟩
        rw [← hLX] at AC hxc
        have HLX := Lib.hid hLX
        have hi0 : (0 : Int) ≤ (i : Int) := by omega
        have hiI : (i : Int) < (l.length : Int) := by omega
        clear hrx hct hcl hcp hx hLX hcx
        go_wp2_with fail
        refine AC.mono ?_
        rintro e w5 ⟨⟨v5, rfl, ho5⟩, hk5⟩
        have hd50 := ho5
        obtain ⟨a5, c5, rfl, _⟩ := hd50
        have hd5 := deps_src ho5
        have HO5 := Lib.hid (hk5.owns HO.out (fun _ _ h => h))
        have HB5 := Lib.hid (hk5.box HB.out (fun h => h))
        have HK5 := Lib.hid (HK.out.trans hk5 (fun _ _ h => h))
        have hw5 := HB5.out.lt
        have HLN := Lib.hid (show LA ++ LX = ([] : List D) ++ atomsSL (l.take (i + 1)) by rw [HLA.out, HLX.out, HAT.out]; simp)
        have hle : (LA ++ LX).length ≤ 1000 := by
          rw [HLN.out, List.length_append]
          have h2 : (atomsSL (l.take (i + 1))).length ≤ counts (l.take (i + 1)) := atomsSL_le _
          have h3 := counts_take_le l (i + 1)
          have h4 := HCL.out
          have h5 : (([] : List D) : List D).length ≤ 1 := by simp
          omega
        clear ho5 hk5 AC
        go_wp2_with (first
          | (at_builtin; (refine wpList_append_src rfl _ _ 39 rfl (w.heap.size + 1) 26 i0 (.agg #[.string ⟨#[]⟩, .int .u8 0, .int .i64 0, .string ⟨#[]⟩, .string ⟨#[]⟩]) 5 64 Tryd.underlying39 hi hz0 hz1 hz2 rfl (by decide) (.slice aa LA.length ca) _ _ rfl HO5.out a5 LX.length c5 (cellsD9 LX) rfl hd5.1 (cellsD9_len _) hd5.2.2 (cellsD9_one _) (by show _ ≤ 9223372036854775807; omega) (by omega) (by omega) ?_; intro v9 w9 hown9 hgrow9 hblk9; rw [← cellsD9_app] at hown9; obtain ⟨a9, c9, e9⟩ := own_form hown9; subst e9; have HO9 := Lib.hid hown9; have HK9 := Lib.hid (HK5.out.grown hgrow9 (fun j hj => .inr (by have := (HO5.out.lt j hj).1; omega))); have HB9 := Lib.hid ((Kept.grown (Kept.refl (fun b => w.heap.size + 1 ≤ b) w5) hgrow9 (fun j hj => .inl (HO5.out.lt j hj).1)).box HB5.out (by omega)); clear hown9 hgrow9 hblk9))
          | fail)
        go_roundw
        case rel => first | exact ⟨i + 1, a9, c9, LA ++ LX, (by rw [List.length_append]), hle, HLN, by go_num, by omega, (by rw [List.length_append]; exact HO9), HB9, HK9⟩ | ((repeat apply Exists.intro); refine ⟨?_, rfl⟩; exact ⟨i + 1, a9, c9, LA ++ LX, (by rw [List.length_append]), hle, HLN, by go_num, by omega, (by rw [List.length_append]; exact HO9), HB9, HK9⟩)
        case measure => first | (simp [intOf]; done) | (simp [intOf]; omega)
      · obtain rfl : i = l.length := by omega
        have hge : ¬ (l.length : Int) < (l.length : Int) := by omega
        have HE := Lib.hid (show ([] : List D) ++ atomsSL (l.take l.length) = atomsS (.mk k d l) by rw [List.take_length, atomsS, HA0.out])
        obtain rfl : LA = atomsS (.mk k d l) := HLA.out.trans HE.out
        clear hlt hil
        go_wp2_with fail
        go_ret
        exact ⟨⟨_, rfl, own_deps9 HO.out⟩, HK.out⟩
end Go.Proofs.YtndakcognjaeoaaDoor

namespace Go.Proofs.YtndakcognjaeoaaDoor
open Go.RowKit Rich

set_option maxRecDepth 100000 in
set_option maxHeartbeats 4000000 in
theorem sameR9_walk : ∀ (x y : R) (v v' : Value) (w : World), RichS w x v → RichS w y v' → fitsX x →
    Calls Tryd.prog 30 #[v, v'] w fun e w' => e = .returned (.bool (sameX x y)) ∧ Kept (fun _ => False) w w' := by
  refine R.ind fun k d l ih y v v' w hr hr' hf => ?_
  obtain ⟨k', d', l'⟩ := y
  have hS : sameX (.mk k d l) (.mk k' d' l') = (decide (k = k') && sameD d d' && decide (l.length = l'.length) && sameL l l') := by rw [sameX]
  generalize sameX (.mk k d l) (.mk k' d' l') = sx at *
  rw [RichS] at hr hr'
  obtain ⟨ao, cp, rfl, hk, ho, hA⟩ := hr
  obtain ⟨ao', cp', rfl, hk', ho', hA'⟩ := hr'
  rw [fitsX] at hf
  obtain ⟨_, _, _, hll, hfl⟩ := hf
  have HI := Lib.hid ih
  have HA := Lib.hid hA
  have HA' := Lib.hid hA'
  have HFL := Lib.hid hfl
  have HB := Lib.hid ((Box.made w 29 (richA k d (.slice ao l.length cp))).after_alloc (.cells (richA k' d' (.slice ao' l'.length cp')) 29))
  have HB' := Lib.hid (show Box ((w.alloc (.cells (richA k d (.slice ao l.length cp)) 29)).alloc (.cells (richA k' d' (.slice ao' l'.length cp')) 29)) (w.heap.size + 1) 29 (richA k' d' (.slice ao' l'.length cp')) from by
    have h := Box.made (w.alloc (.cells (richA k d (.slice ao l.length cp)) 29)) 29 (richA k' d' (.slice ao' l'.length cp'))
    rw [World.size_alloc] at h
    exact h)
  clear ih hA hA' hfl
  by_cases c1 : k = k'
  · subst c1
    cases hd : sameD d d' with
    | true =>
      have hdd := sameD_iff.1 hd
      subst hdd
      rw [hd] at hS
      by_cases c2 : l.length = l'.length
      · have HS := Lib.hid (show sx = sameL l l' by rw [hS, decide_eq_true rfl, decide_eq_true c2]; rfl)
        have HC2 := Lib.hid c2
        have hne : ((l.length : Int) != (l'.length : Int)) = false := by simp; omega
        clear hS hd c2
        go_enter Tryd.func30, Tryd.ntmps30
        go_wp2_with fail
        go_loopw [5] (fun v5 wr => ∃ (i : Nat), v5 = .int .i64 (i : Int) ∧ i ≤ l.length ∧ Hid (∀ (j : Nat) a b, j < i → l[j]? = some a → l'[j]? = some b → sameX a b = true) ∧ Hid (Box wr w.heap.size 29 (richA k d (.slice ao l.length cp))) ∧ Hid (Box wr (w.heap.size + 1) 29 (richA k d (.slice ao' l'.length cp'))) ∧ Hid (Kept (fun _ => False) w wr)) (fun v5 _ => l.length - (intOf v5).toNat)
        case atStart => exact ⟨0, rfl, Nat.zero_le _, Lib.hid (by intro j a b h; omega), HB, HB', Lib.hid (((Kept.refl _ _).alloc _).alloc _)⟩
        case round =>
          obtain ⟨i, rfl, hi, HE, HBr, HBr', HK⟩ := hrel
          rename World => wr
          have b6 : wr.cell? ⟨w.heap.size, 6, none⟩ = some (.slice ao l.length cp) := HBr.out.cell 6
          have b6' : wr.cell? ⟨w.heap.size + 1, 6, none⟩ = some (.slice ao' l'.length cp') := HBr'.out.cell 6
          by_cases hlt : i < l.length
          · obtain ⟨x, hx⟩ : ∃ x, l[i]? = some x := ⟨_, List.getElem?_eq_getElem hlt⟩
            have hlt' : i < l'.length := by have := HC2.out; omega
            obtain ⟨y, hy⟩ : ∃ y, l'[i]? = some y := ⟨_, List.getElem?_eq_getElem hlt'⟩
            obtain ⟨b, off, ap, cpp, rfl, hb, hrx, d0, d1, d2, d3, d4, d5, d6⟩ := (ArgS.kept HK.out ao 0 l HA.out).part hx
            obtain ⟨b', off', ap', cpp', rfl, hb', hry, g0, g1, g2, g3, g4, g5, g6⟩ := (ArgS.kept HK.out ao' 0 l' HA'.out).part hy
            have PC := fun W (hk : Kept (fun _ => False) wr W) => HI.out x (List.mem_of_getElem? hx) y _ _ W (RichS.kept hk x _ hrx) (RichS.kept hk y _ hry) (fitsL_mem HFL.out (List.mem_of_getElem? hx))
            have hi0 : (0 : Int) ≤ (i : Int) := by omega
            have hiI : (i : Int) < (l.length : Int) := by omega
            have hiJ : (i : Int) < (l'.length : Int) := by omega
            cases hxy : sameX x y with
            | true =>
              have HN := Lib.hid (show ∀ (j : Nat) a b, j < i + 1 → l[j]? = some a → l'[j]? = some b → sameX a b = true from fun j a b hj ha hb2 => by
                by_cases hji : j < i
                · exact HE.out j a b hji ha hb2
                · obtain rfl : j = i := by omega
                  rw [hx] at ha
                  rw [hy] at hb2
                  injection ha with ha
                  injection hb2 with hb2
                  rw [← ha, ← hb2]; exact hxy)
              rw [hxy] at PC
              clear hx hy hrx hry hxy
              go_wp2_with fail
              go_region_with ((first
                | (go_at_call 30; refine (PC _ (by repeat' (first | exact Kept.refl _ _ | refine Kept.drewN ?_ _ | refine Kept.drew ?_))).mono ?_; rintro e w5 ⟨rfl, hk5⟩; have HK := Lib.hid (Kept.trans HK.out ((Kept.drew (Kept.refl (fun _ => False) wr)).trans hk5 (fun _ _ h => h)) (fun _ _ h => h)); have HBr := Lib.hid (((Kept.drew (Kept.refl (fun _ => False) wr)).trans hk5 (fun _ _ h => h)).box HBr.out (fun h => h)); have HBr' := Lib.hid (((Kept.drew (Kept.refl (fun _ => False) wr)).trans hk5 (fun _ _ h => h)).box HBr'.out (fun h => h)))
                | fail))
              all_goals go_wp2_with fail
              all_goals go_roundw
              all_goals first
                | exact ⟨i + 1, by go_num, by omega, HN, HBr, HBr', HK⟩
                | (simp [intOf]; omega)
            | false =>
              have HF := Lib.hid (show sx = false by rw [HS.out]; exact sameL_at HC2.out hx hy hxy)
              rw [hxy] at PC
              clear hx hy hrx hry hxy
              go_wp2_with fail
              go_region_with ((first
                | (go_at_call 30; refine (PC _ (by repeat' (first | exact Kept.refl _ _ | refine Kept.drewN ?_ _ | refine Kept.drew ?_))).mono ?_; rintro e w5 ⟨rfl, hk5⟩; have HK := Lib.hid (Kept.trans HK.out ((Kept.drew (Kept.refl (fun _ => False) wr)).trans hk5 (fun _ _ h => h)) (fun _ _ h => h)); have HBr := Lib.hid (((Kept.drew (Kept.refl (fun _ => False) wr)).trans hk5 (fun _ _ h => h)).box HBr.out (fun h => h)); have HBr' := Lib.hid (((Kept.drew (Kept.refl (fun _ => False) wr)).trans hk5 (fun _ _ h => h)).box HBr'.out (fun h => h)))
                | fail))
              all_goals go_wp2_with fail
              all_goals go_ret
              all_goals exact ⟨by rw [HF.out]; rfl, HK.out⟩
          · have hge : ¬ (i : Int) < (l.length : Int) := by omega
            have HF := Lib.hid (show sx = true by
              rw [HS.out]
              exact sameL_all HC2.out fun j a b ha hb => HE.out j a b (by have := (List.getElem?_eq_some_iff.1 ha).1; omega) ha hb)
            go_wp2_with fail
            go_ret
            exact ⟨by rw [HF.out]; rfl, HK.out⟩
      · have HF := Lib.hid (show sx = false by rw [hS, decide_eq_false c2, Bool.and_false, Bool.false_and])
        have hne : ((l.length : Int) != (l'.length : Int)) = true := by simp; omega
        clear hS hd c2 HI
        go_enter Tryd.func30, Tryd.ntmps30
        go_wp2_with fail
        all_goals go_ret
        all_goals exact ⟨by rw [HF.out]; rfl, ((Kept.refl _ _).alloc _).alloc _⟩
    | false =>
      have HF := Lib.hid (show sx = false by rw [hS, hd, Bool.and_false, Bool.false_and, Bool.false_and])
      obtain ⟨n, o, ⟨e, vv, r⟩⟩ := d
      obtain ⟨n', o', ⟨e', vv', r'⟩⟩ := d'
      unfold sameD at hd
      clear hS HI HA HA' HFL HB HB'
      by_cases q1 : n = n'
      · subst q1
        by_cases q2 : o = o'
        · subst q2
          by_cases q3 : e = e'
          · subst q3
            by_cases q4 : vv = vv'
            · subst q4
              have q5 : ¬ r = r' := fun e => by subst e; simp at hd
              clear hd
              go_enter Tryd.func30, Tryd.ntmps30
              go_wp2_with fail
              all_goals go_ret
              all_goals exact ⟨by rw [HF.out]; rfl, ((Kept.refl _ _).alloc _).alloc _⟩
            · skip
              clear hd
              go_enter Tryd.func30, Tryd.ntmps30
              go_wp2_with fail
              all_goals go_ret
              all_goals exact ⟨by rw [HF.out]; rfl, ((Kept.refl _ _).alloc _).alloc _⟩
          · skip
            clear hd
            go_enter Tryd.func30, Tryd.ntmps30
            go_wp2_with fail
            all_goals go_ret
            all_goals exact ⟨by rw [HF.out]; rfl, ((Kept.refl _ _).alloc _).alloc _⟩
        · skip
          clear hd
          go_enter Tryd.func30, Tryd.ntmps30
          go_wp2_with fail
          all_goals go_ret
          all_goals exact ⟨by rw [HF.out]; rfl, ((Kept.refl _ _).alloc _).alloc _⟩
      · skip
        clear hd
        go_enter Tryd.func30, Tryd.ntmps30
        go_wp2_with fail
        all_goals go_ret
        all_goals exact ⟨by rw [HF.out]; rfl, ((Kept.refl _ _).alloc _).alloc _⟩
  · have HF := Lib.hid (show sx = false by rw [hS, decide_eq_false c1]; rfl)
    have hkk : ((k : Int) != (k' : Int)) = true := by simp; omega
    clear hS c1 HI
    go_enter Tryd.func30, Tryd.ntmps30
    go_wp2_with fail
    all_goals go_ret
    all_goals exact ⟨by rw [HF.out]; rfl, ((Kept.refl _ _).alloc _).alloc _⟩
end Go.Proofs.YtndakcognjaeoaaDoor

namespace Go.Proofs.YtndakcognjaeoaaDoor
open Go.RowKit Rich

/-- What a function value answers to two rich dependencies, the first of which is one of these. -/
def AnsQ (g : Nat) (l : List R) (w : World) : Prop := ∀ x ∈ l, ∀ y v v' W, Kept (fun _ => False) w W → RichS W x v → RichS W y v' → Calls Tryd.prog g #[v, v'] W fun e W' => e = .returned (.bool (sameX x y)) ∧ Kept (fun _ => False) W W'
set_option maxRecDepth 100000 in
set_option maxHeartbeats 8000000 in
theorem equalFunc9 (g : Nat) (eg : ∀ args w, (callFunc g args).run Tryd.prog w = .ok (.enter g args) w) (l l' : List R) (ao ao' : Option Addr) (cp cp' : Nat) (w : World) (hl : l.length < 140737488355328) (hA0 : ArgS w ao 0 l) (hA0' : ArgS w ao' 0 l') (hF : AnsQ g l w) :
    Calls Tryd.prog 46 #[.slice ao l.length cp, .slice ao' l'.length cp', .func (.func g) #[] #[]] w fun e w' => e = .returned (.bool (decide (l.length = l'.length) && sameL l l')) ∧ Kept (fun _ => False) w w' := by
  have HA := Lib.hid hA0
  have HA' := Lib.hid hA0'
  have HI := Lib.hid hF
  clear hA0 hA0' hF
  by_cases c2 : l.length = l'.length
  · rw [decide_eq_true c2, Bool.true_and]
    have HC2 := Lib.hid c2
    have hne : ((l.length : Int) != (l'.length : Int)) = false := by simp; omega
    obtain ⟨sx, hsx⟩ : ∃ sx, sx = sameL l l' := ⟨_, rfl⟩
    have HS := Lib.hid hsx
    rw [← hsx]
    clear c2 hsx
    go_enter Tryd.func46, Tryd.ntmps46
    go_wp2_with fail
    go_loopw [17] (fun v17 wr => ∃ i : Nat, v17 = .int .i64 (i : Int) ∧ i ≤ l.length ∧ Hid (∀ (j : Nat) a b, j < i → l[j]? = some a → l'[j]? = some b → sameX a b = true) ∧ Hid (Kept (fun _ => False) w wr)) (fun v17 _ => l.length - (intOf v17).toNat)
    case atStart => exact ⟨0, rfl, Nat.zero_le _, Lib.hid (by intro j a b h; omega), Lib.hid (Kept.refl _ _)⟩
    case round =>
      obtain ⟨i, rfl, hi, HE, HK⟩ := hrel
      rename World => wr
      by_cases hlt : i < l.length
      · obtain ⟨x, hx⟩ : ∃ x, l[i]? = some x := ⟨_, List.getElem?_eq_getElem hlt⟩
        have hlt' : i < l'.length := by have := HC2.out; omega
        obtain ⟨y, hy⟩ : ∃ y, l'[i]? = some y := ⟨_, List.getElem?_eq_getElem hlt'⟩
        obtain ⟨b, off, ap, cpp, rfl, hb, hrx, d0, d1, d2, d3, d4, d5, d6⟩ := (ArgS.kept HK.out ao 0 l HA.out).part hx
        obtain ⟨b', off', ap', cpp', rfl, hb', hry, g0, g1, g2, g3, g4, g5, g6⟩ := (ArgS.kept HK.out ao' 0 l' HA'.out).part hy
        have K2 : Kept (fun _ => False) wr ((wr.alloc (.cells (richA x.kind x.dep (.slice ap x.args.length cpp)) 29)).alloc (.cells (richA y.kind y.dep (.slice ap' y.args.length cpp')) 29)) := ((Kept.refl _ _).alloc _).alloc _
        have PC := HI.out x (List.mem_of_getElem? hx) y _ _ _ (HK.out.trans K2 (fun _ _ h => h)) (RichS.kept K2 x _ hrx) (RichS.kept K2 y _ hry)
        have HK2 := Lib.hid (HK.out.trans K2 (fun _ _ h => h))
        have HY := Lib.hid (And.intro hx hy)
        have hi0 : (0 : Int) ≤ (i : Int) := by omega
        have hiI : (i : Int) < (l.length : Int) := by omega
        have hiJ : (i : Int) < (l'.length : Int) := by omega
        cases hxy : sameX x y with
        | true =>
          have HN := Lib.hid (show ∀ (j : Nat) a b, j < i + 1 → l[j]? = some a → l'[j]? = some b → sameX a b = true from fun j a b hj ha hb2 => by
            by_cases hji : j < i
            · exact HE.out j a b hji ha hb2
            · obtain rfl : j = i := by omega
              rw [HY.out.1] at ha
              rw [HY.out.2] at hb2
              injection ha with ha
              injection hb2 with hb2
              rw [← ha, ← hb2]; exact hxy)
          rw [hxy] at PC
          clear hx hy hrx hry hxy K2
          go_wp2_with (first
            | (go_at_fn g; refine PC.mono ?_; rintro e w5 ⟨rfl, hk5⟩; have HK5 := Lib.hid (HK2.out.trans hk5 (fun _ _ h => h)); clear hk5)
            | fail)
          go_roundw
          all_goals first
            | exact ⟨i + 1, by go_num, by omega, HN, HK5⟩
            | (simp [intOf]; done)
            | (simp [intOf]; omega)
        | false =>
          have HF := Lib.hid (show sx = false by rw [HS.out]; exact sameL_at HC2.out hx hy hxy)
          rw [hxy] at PC
          clear hx hy hrx hry hxy K2
          go_wp2_with (first
            | (go_at_fn g; refine PC.mono ?_; rintro e w5 ⟨rfl, hk5⟩; have HK5 := Lib.hid (HK2.out.trans hk5 (fun _ _ h => h)); clear hk5)
            | fail)
          go_ret
          exact ⟨by rw [HF.out]; rfl, HK5.out⟩
      · have hge : ¬ (i : Int) < (l.length : Int) := by omega
        have HF := Lib.hid (show sx = true by
          rw [HS.out]
          exact sameL_all HC2.out fun j a b ha hb => HE.out j a b (by have := (List.getElem?_eq_some_iff.1 ha).1; omega) ha hb)
        go_wp2_with fail
        go_ret
        exact ⟨by rw [HF.out]; rfl, HK.out⟩
  · rw [decide_eq_false c2, Bool.false_and]
    have hne : ((l.length : Int) != (l'.length : Int)) = true := by simp; omega
    clear c2
    go_enter Tryd.func46, Tryd.ntmps46
    go_wp2_with fail
    go_ret
    exact ⟨rfl, Kept.refl _ _⟩
set_option maxRecDepth 100000 in
set_option maxHeartbeats 8000000 in
theorem same9_walk : ∀ (x y : R) (v v' : Value) (w : World), RichS w x v → RichS w y v' → fitsX x →
    Calls Tryd.prog 22 #[v, v'] w fun e w' => e = .returned (.bool (sameX x y)) ∧ Kept (fun _ => False) w w' := by
  refine R.ind fun k d l ih y v v' w hr hr' hf => ?_
  obtain ⟨k', d', l'⟩ := y
  have hS : sameX (.mk k d l) (.mk k' d' l') = (decide (k = k') && sameD d d' && decide (l.length = l'.length) && sameL l l') := by rw [sameX]
  generalize sameX (.mk k d l) (.mk k' d' l') = sx at *
  rw [RichS] at hr hr'
  obtain ⟨ao, cp, rfl, hk, ho, hA⟩ := hr
  obtain ⟨ao', cp', rfl, hk', ho', hA'⟩ := hr'
  rw [fitsX] at hf
  obtain ⟨_, _, _, hll, hfl⟩ := hf
  have K2 : Kept (fun _ => False) w ((w.alloc (.cells (richA k d (.slice ao l.length cp)) 29)).alloc (.cells (richA k' d' (.slice ao' l'.length cp')) 29)) := ((Kept.refl _ _).alloc _).alloc _
  have PC := equalFunc9 22 (enters_of Tryd.func22 (by kernel_rfl) rfl) l l' ao ao' cp cp' _ (by omega) (ArgS.kept K2 _ 0 l hA) (ArgS.kept K2 _ 0 l' hA') (fun x hx y v v' W _ h1 h2 => ih x hx y v v' W h1 h2 (fitsL_mem hfl hx))
  have HK2 := Lib.hid K2
  clear ih hA hA' hfl K2 hll
  by_cases c1 : k = k'
  · subst c1
    cases hd : sameD d d' with
    | true =>
      have hdd := sameD_iff.1 hd
      subst hdd
      rw [hd] at hS
      have HS := Lib.hid (show (decide (l.length = l'.length) && sameL l l') = sx by rw [hS, decide_eq_true rfl]; simp)
      rw [HS.out] at PC
      clear hS hd HS
      go_enter Tryd.func22, Tryd.ntmps22
      go_wp2_with (first
        | (go_at_call 46; refine PC.mono ?_; rintro e w5 ⟨rfl, hk5⟩; have HK5 := Lib.hid (HK2.out.trans hk5 (fun _ _ h => h)); clear hk5)
        | fail)
      all_goals go_ret
      all_goals exact ⟨rfl, HK5.out⟩
    | false =>
      have HF := Lib.hid (show sx = false by rw [hS, hd, Bool.and_false, Bool.false_and, Bool.false_and])
      obtain ⟨n, o, ⟨e, vv, r⟩⟩ := d
      obtain ⟨n', o', ⟨e', vv', r'⟩⟩ := d'
      unfold sameD at hd
      clear hS PC
      by_cases q1 : n = n'
      · subst q1
        by_cases q2 : o = o'
        · subst q2
          by_cases q3 : e = e'
          · subst q3
            by_cases q4 : vv = vv'
            · subst q4
              have q5 : ¬ r = r' := fun e => by subst e; simp at hd
              clear hd
              go_enter Tryd.func22, Tryd.ntmps22
              go_wp2_with fail
              all_goals go_ret
              all_goals exact ⟨by rw [HF.out]; rfl, ((Kept.refl _ _).alloc _).alloc _⟩
            · skip
              clear hd
              go_enter Tryd.func22, Tryd.ntmps22
              go_wp2_with fail
              all_goals go_ret
              all_goals exact ⟨by rw [HF.out]; rfl, ((Kept.refl _ _).alloc _).alloc _⟩
          · skip
            clear hd
            go_enter Tryd.func22, Tryd.ntmps22
            go_wp2_with fail
            all_goals go_ret
            all_goals exact ⟨by rw [HF.out]; rfl, ((Kept.refl _ _).alloc _).alloc _⟩
        · skip
          clear hd
          go_enter Tryd.func22, Tryd.ntmps22
          go_wp2_with fail
          all_goals go_ret
          all_goals exact ⟨by rw [HF.out]; rfl, ((Kept.refl _ _).alloc _).alloc _⟩
      · skip
        clear hd
        go_enter Tryd.func22, Tryd.ntmps22
        go_wp2_with fail
        all_goals go_ret
        all_goals exact ⟨by rw [HF.out]; rfl, ((Kept.refl _ _).alloc _).alloc _⟩
  · have HF := Lib.hid (show sx = false by rw [hS, decide_eq_false c1]; rfl)
    have hkk : ((k : Int) == (k' : Int)) = false := beq_eq_false_iff_ne.2 (by omega)
    clear hS c1 PC
    go_enter Tryd.func22, Tryd.ntmps22
    go_wp2_with fail
    all_goals go_ret
    all_goals exact ⟨by rw [HF.out]; rfl, ((Kept.refl _ _).alloc _).alloc _⟩
end Go.Proofs.YtndakcognjaeoaaDoor

namespace Go.Proofs.YtndakcognjaeoaaDoor
open Go.RowKit Rich

theorem deeps_take {l : List R} {i : Nat} {x : R} (h : l[i]? = some x) : deeps (l.take (i + 1)) = max (deeps (l.take i)) (deep x) := by
  rw [List.take_add_one, h]
  have app : ∀ a b : List R, deeps (a ++ b) = max (deeps a) (deeps b) := by
    intro a b
    induction a with
    | nil => rw [deeps, List.nil_append]; omega
    | cons y a ih => rw [List.cons_append, deeps, deeps, ih]; omega
  rw [app]
  show max _ (deeps [x]) = _
  rw [deeps, deeps]
  omega
theorem deep_count : ∀ x : R, deep x ≤ count x := by
  refine R.ind fun k d l ih => ?_
  rw [deep, count]
  split
  · omega
  · have : deeps l ≤ counts l := by
      induction l with
      | nil => rw [deeps]; omega
      | cons y l ih2 =>
        rw [deeps, counts]
        have := ih y (by simp)
        have := ih2 (fun z hz => ih z (by simp [hz]))
        omega
    omega
end Go.Proofs.YtndakcognjaeoaaDoor
