/-
  The walk over the law RichUnlike, over what the program's rich answers. Conditions: as each theorem states.
-/
import Derived.Test.YtfijhanfcppmgaaGreatDoorK09
namespace Go.Proofs.YtfijhanfcppmgaaGreatDoor
open Go.RowKit Rich

set_option maxRecDepth 100000 in
set_option maxHeartbeats 4000000 in
theorem richunlike_walk (w : World) (hSh : ShowK8 w) (hAw : AwakeK8 w) (x y : R) (v v' : Value) (hr : RichS w x v) (hr' : RichS w y v') (hf : fitsX x) (hf' : fitsX y) :
    Calls Tryz.prog 9 #[v, v'] w fun e w' => e = .returned (.bool true) ∧ Kept (fun _ => False) w w' := by
  have AC := fun W (hk : Kept (fun _ => False) w W) => hAw W hk
  have L1 := fun W (hk : Kept (fun _ => False) w W) => large8_walk x v W (RichS.kept hk x v hr) hf
  have L2 := fun W (hk : Kept (fun _ => False) w W) => large8_walk y v' W (RichS.kept hk y v' hr') hf'
  have S0 := fun W (hk : Kept (fun _ => False) w W) => same8_walk x y v v' W (RichS.kept hk x v hr) (RichS.kept hk y v' hr') hf
  cases g1 : (muchX x 0).2 with
  | true =>
    rw [g1] at L1
    clear S0 L2 hSh hAw
    obtain ⟨k, d, l⟩ := x
    obtain ⟨k', d', l'⟩ := y
    rw [RichS] at hr hr'
    obtain ⟨ao, cp, rfl, _⟩ := hr
    obtain ⟨ao', cp', rfl, _⟩ := hr'
    have HA := Lib.hid ((Box.made w 28 (richA k d (.slice ao l.length cp))).after_alloc (.cells (richA k' d' (.slice ao' l'.length cp')) 28))
    have HB := Lib.hid (show Box ((w.alloc (.cells (richA k d (.slice ao l.length cp)) 28)).alloc (.cells (richA k' d' (.slice ao' l'.length cp')) 28)) (w.heap.size + 1) 28 (richA k' d' (.slice ao' l'.length cp')) from by
      have h := Box.made (w.alloc (.cells (richA k d (.slice ao l.length cp)) 28)) 28 (richA k' d' (.slice ao' l'.length cp'))
      rw [World.size_alloc] at h
      exact h)
    have HK := Lib.hid (((Kept.refl (fun _ => False) w).alloc (.cells (richA k d (.slice ao l.length cp)) 28)).alloc (.cells (richA k' d' (.slice ao' l'.length cp')) 28))
    go_enter Tryz.func9, Tryz.ntmps9
    go_wp2_with (first
      | (go_at_call 10; (with_reducible refine (L1 _ HK.out).mono ?_); rintro e w3 ⟨rfl, hk3⟩; have HK := Lib.hid (Kept.trans HK.out hk3 (fun _ _ h => h)); have HA := Lib.hid (hk3.box HA.out (fun h => h)); have a0 := HA.out.cell 0; have a1 := HA.out.cell 1; have a2 := HA.out.cell 2; have a3 := HA.out.cell 3; have a4 := HA.out.cell 4; have a5 := HA.out.cell 5; have a6 := HA.out.cell 6; have HB := Lib.hid (hk3.box HB.out (fun h => h)); have b0 := HB.out.cell 0; have b1 := HB.out.cell 1; have b2 := HB.out.cell 2; have b3 := HB.out.cell 3; have b4 := HB.out.cell 4; have b5 := HB.out.cell 5; have b6 := HB.out.cell 6; clear hk3)
      | (go_at_call 11; (with_reducible refine (AC _ HK.out).mono ?_); rintro e w5 ⟨rfl, hk5⟩; have HK := Lib.hid (Kept.trans HK.out hk5 (fun _ _ h => h)); have HA := Lib.hid (hk5.box HA.out (fun h => h)); have a0 := HA.out.cell 0; have a1 := HA.out.cell 1; have a2 := HA.out.cell 2; have a3 := HA.out.cell 3; have a4 := HA.out.cell 4; have a5 := HA.out.cell 5; have a6 := HA.out.cell 6; have HB := Lib.hid (hk5.box HB.out (fun h => h)); have b0 := HB.out.cell 0; have b1 := HB.out.cell 1; have b2 := HB.out.cell 2; have b3 := HB.out.cell 3; have b4 := HB.out.cell 4; have b5 := HB.out.cell 5; have b6 := HB.out.cell 6; clear hk5)
      | fail)
    go_ret
    exact ⟨rfl, HK.out⟩
  | false =>
    rw [g1] at L1
    cases g2 : (muchX y 0).2 with
    | true =>
      rw [g2] at L2
      clear S0 hSh hAw
      obtain ⟨k, d, l⟩ := x
      obtain ⟨k', d', l'⟩ := y
      rw [RichS] at hr hr'
      obtain ⟨ao, cp, rfl, _⟩ := hr
      obtain ⟨ao', cp', rfl, _⟩ := hr'
      have HA := Lib.hid ((Box.made w 28 (richA k d (.slice ao l.length cp))).after_alloc (.cells (richA k' d' (.slice ao' l'.length cp')) 28))
      have HB := Lib.hid (show Box ((w.alloc (.cells (richA k d (.slice ao l.length cp)) 28)).alloc (.cells (richA k' d' (.slice ao' l'.length cp')) 28)) (w.heap.size + 1) 28 (richA k' d' (.slice ao' l'.length cp')) from by
        have h := Box.made (w.alloc (.cells (richA k d (.slice ao l.length cp)) 28)) 28 (richA k' d' (.slice ao' l'.length cp'))
        rw [World.size_alloc] at h
        exact h)
      have HK := Lib.hid (((Kept.refl (fun _ => False) w).alloc (.cells (richA k d (.slice ao l.length cp)) 28)).alloc (.cells (richA k' d' (.slice ao' l'.length cp')) 28))
      go_enter Tryz.func9, Tryz.ntmps9
      go_wp2_with (first
        | (go_at_call 10; (with_reducible refine (L1 _ HK.out).mono ?_); rintro e w3 ⟨rfl, hk3⟩; have HK := Lib.hid (Kept.trans HK.out hk3 (fun _ _ h => h)); have HA := Lib.hid (hk3.box HA.out (fun h => h)); have a0 := HA.out.cell 0; have a1 := HA.out.cell 1; have a2 := HA.out.cell 2; have a3 := HA.out.cell 3; have a4 := HA.out.cell 4; have a5 := HA.out.cell 5; have a6 := HA.out.cell 6; have HB := Lib.hid (hk3.box HB.out (fun h => h)); have b0 := HB.out.cell 0; have b1 := HB.out.cell 1; have b2 := HB.out.cell 2; have b3 := HB.out.cell 3; have b4 := HB.out.cell 4; have b5 := HB.out.cell 5; have b6 := HB.out.cell 6; clear hk3)
        | (go_at_call 10; (with_reducible refine (L2 _ HK.out).mono ?_); rintro e w4 ⟨rfl, hk4⟩; have HK := Lib.hid (Kept.trans HK.out hk4 (fun _ _ h => h)); have HA := Lib.hid (hk4.box HA.out (fun h => h)); have a0 := HA.out.cell 0; have a1 := HA.out.cell 1; have a2 := HA.out.cell 2; have a3 := HA.out.cell 3; have a4 := HA.out.cell 4; have a5 := HA.out.cell 5; have a6 := HA.out.cell 6; have HB := Lib.hid (hk4.box HB.out (fun h => h)); have b0 := HB.out.cell 0; have b1 := HB.out.cell 1; have b2 := HB.out.cell 2; have b3 := HB.out.cell 3; have b4 := HB.out.cell 4; have b5 := HB.out.cell 5; have b6 := HB.out.cell 6; clear hk4)
        | (go_at_call 11; (with_reducible refine (AC _ HK.out).mono ?_); rintro e w5 ⟨rfl, hk5⟩; have HK := Lib.hid (Kept.trans HK.out hk5 (fun _ _ h => h)); have HA := Lib.hid (hk5.box HA.out (fun h => h)); have a0 := HA.out.cell 0; have a1 := HA.out.cell 1; have a2 := HA.out.cell 2; have a3 := HA.out.cell 3; have a4 := HA.out.cell 4; have a5 := HA.out.cell 5; have a6 := HA.out.cell 6; have HB := Lib.hid (hk5.box HB.out (fun h => h)); have b0 := HB.out.cell 0; have b1 := HB.out.cell 1; have b2 := HB.out.cell 2; have b3 := HB.out.cell 3; have b4 := HB.out.cell 4; have b5 := HB.out.cell 5; have b6 := HB.out.cell 6; clear hk5)
        | fail)
      go_ret
      exact ⟨rfl, HK.out⟩
    | false =>
      rw [g2] at L2
      obtain ⟨s1, c1⟩ := large_no g1
      obtain ⟨s2, c2⟩ := large_no g2
      have T1 := fun W (hk : Kept (fun _ => False) w W) => hSh x v W (RichS.kept hk x v hr) s1 c1 hk
      have T2 := fun W (hk : Kept (fun _ => False) w W) => hSh y v' W (RichS.kept hk y v' hr') s2 c2 hk
      have hun : (showN x).2 = 0 → (showN y).2 = 0 → decide ((showN x).1 = (showN y).1) = sameX x y := fun h1 h2 => by
        by_cases he : x = y
        · rw [(sameX_iff x y).2 he, he]; simp
        · have hs : sameX x y = false := by
            cases h : sameX x y with
            | false => rfl
            | true => exact absurd ((sameX_iff x y).1 h) he
          rw [hs]
          refine decide_eq_false fun h => he ?_
          exact show_unlike (t := (showN x).1) (Prod.ext rfl h1) (Prod.ext h.symm h2)
      generalize sameX x y = sx at *
      generalize showN x = a1 at *
      generalize showN y = a2 at *
      obtain ⟨t1, e1⟩ := a1
      obtain ⟨t2, e2⟩ := a2
      simp only at hun T1 T2
      clear hSh hAw s1 s2 c1 c2 g1 g2
      obtain ⟨k, d, l⟩ := x
      obtain ⟨k', d', l'⟩ := y
      rw [RichS] at hr hr'
      obtain ⟨ao, cp, rfl, _⟩ := hr
      obtain ⟨ao', cp', rfl, _⟩ := hr'
      have HA := Lib.hid ((Box.made w 28 (richA k d (.slice ao l.length cp))).after_alloc (.cells (richA k' d' (.slice ao' l'.length cp')) 28))
      have HB := Lib.hid (show Box ((w.alloc (.cells (richA k d (.slice ao l.length cp)) 28)).alloc (.cells (richA k' d' (.slice ao' l'.length cp')) 28)) (w.heap.size + 1) 28 (richA k' d' (.slice ao' l'.length cp')) from by
        have h := Box.made (w.alloc (.cells (richA k d (.slice ao l.length cp)) 28)) 28 (richA k' d' (.slice ao' l'.length cp'))
        rw [World.size_alloc] at h
        exact h)
      have HK := Lib.hid (((Kept.refl (fun _ => False) w).alloc (.cells (richA k d (.slice ao l.length cp)) 28)).alloc (.cells (richA k' d' (.slice ao' l'.length cp')) 28))
      by_cases h1 : e1 = 0
      · subst h1
        by_cases h2 : e2 = 0
        · subst h2
          have hun' := hun rfl rfl
          have HU := Lib.hid hun'
          clear hun hun'
          go_enter Tryz.func9, Tryz.ntmps9
          go_wp2_with (first
            | (go_at_call 10; (with_reducible refine (L1 _ HK.out).mono ?_); rintro e w3 ⟨rfl, hk3⟩; have HK := Lib.hid (Kept.trans HK.out hk3 (fun _ _ h => h)); have HA := Lib.hid (hk3.box HA.out (fun h => h)); have a0 := HA.out.cell 0; have a1 := HA.out.cell 1; have a2 := HA.out.cell 2; have a3 := HA.out.cell 3; have a4 := HA.out.cell 4; have a5 := HA.out.cell 5; have a6 := HA.out.cell 6; have HB := Lib.hid (hk3.box HB.out (fun h => h)); have b0 := HB.out.cell 0; have b1 := HB.out.cell 1; have b2 := HB.out.cell 2; have b3 := HB.out.cell 3; have b4 := HB.out.cell 4; have b5 := HB.out.cell 5; have b6 := HB.out.cell 6; clear hk3)
            | (go_at_call 10; (with_reducible refine (L2 _ HK.out).mono ?_); rintro e w4 ⟨rfl, hk4⟩; have HK := Lib.hid (Kept.trans HK.out hk4 (fun _ _ h => h)); have HA := Lib.hid (hk4.box HA.out (fun h => h)); have a0 := HA.out.cell 0; have a1 := HA.out.cell 1; have a2 := HA.out.cell 2; have a3 := HA.out.cell 3; have a4 := HA.out.cell 4; have a5 := HA.out.cell 5; have a6 := HA.out.cell 6; have HB := Lib.hid (hk4.box HB.out (fun h => h)); have b0 := HB.out.cell 0; have b1 := HB.out.cell 1; have b2 := HB.out.cell 2; have b3 := HB.out.cell 3; have b4 := HB.out.cell 4; have b5 := HB.out.cell 5; have b6 := HB.out.cell 6; clear hk4)
            | (go_at_call 11; (with_reducible refine (AC _ HK.out).mono ?_); rintro e w5 ⟨rfl, hk5⟩; have HK := Lib.hid (Kept.trans HK.out hk5 (fun _ _ h => h)); have HA := Lib.hid (hk5.box HA.out (fun h => h)); have a0 := HA.out.cell 0; have a1 := HA.out.cell 1; have a2 := HA.out.cell 2; have a3 := HA.out.cell 3; have a4 := HA.out.cell 4; have a5 := HA.out.cell 5; have a6 := HA.out.cell 6; have HB := Lib.hid (hk5.box HB.out (fun h => h)); have b0 := HB.out.cell 0; have b1 := HB.out.cell 1; have b2 := HB.out.cell 2; have b3 := HB.out.cell 3; have b4 := HB.out.cell 4; have b5 := HB.out.cell 5; have b6 := HB.out.cell 6; clear hk5)
            | (go_at_call 15; (with_reducible refine (T1 _ HK.out).mono ?_); rintro e w6 ⟨rfl, hk6⟩; have HK := Lib.hid (Kept.trans HK.out hk6 (fun _ _ h => h)); have HA := Lib.hid (hk6.box HA.out (fun h => h)); have a0 := HA.out.cell 0; have a1 := HA.out.cell 1; have a2 := HA.out.cell 2; have a3 := HA.out.cell 3; have a4 := HA.out.cell 4; have a5 := HA.out.cell 5; have a6 := HA.out.cell 6; have HB := Lib.hid (hk6.box HB.out (fun h => h)); have b0 := HB.out.cell 0; have b1 := HB.out.cell 1; have b2 := HB.out.cell 2; have b3 := HB.out.cell 3; have b4 := HB.out.cell 4; have b5 := HB.out.cell 5; have b6 := HB.out.cell 6; clear hk6)
            | (go_at_call 15; (with_reducible refine (T2 _ HK.out).mono ?_); rintro e w7 ⟨rfl, hk7⟩; have HK := Lib.hid (Kept.trans HK.out hk7 (fun _ _ h => h)); have HA := Lib.hid (hk7.box HA.out (fun h => h)); have a0 := HA.out.cell 0; have a1 := HA.out.cell 1; have a2 := HA.out.cell 2; have a3 := HA.out.cell 3; have a4 := HA.out.cell 4; have a5 := HA.out.cell 5; have a6 := HA.out.cell 6; have HB := Lib.hid (hk7.box HB.out (fun h => h)); have b0 := HB.out.cell 0; have b1 := HB.out.cell 1; have b2 := HB.out.cell 2; have b3 := HB.out.cell 3; have b4 := HB.out.cell 4; have b5 := HB.out.cell 5; have b6 := HB.out.cell 6; clear hk7)
            | (go_at_call 20; (with_reducible refine (S0 _ HK.out).mono ?_); rintro e w8 ⟨rfl, hk8⟩; have HK := Lib.hid (Kept.trans HK.out hk8 (fun _ _ h => h)); have HA := Lib.hid (hk8.box HA.out (fun h => h)); have a0 := HA.out.cell 0; have a1 := HA.out.cell 1; have a2 := HA.out.cell 2; have a3 := HA.out.cell 3; have a4 := HA.out.cell 4; have a5 := HA.out.cell 5; have a6 := HA.out.cell 6; have HB := Lib.hid (hk8.box HB.out (fun h => h)); have b0 := HB.out.cell 0; have b1 := HB.out.cell 1; have b2 := HB.out.cell 2; have b3 := HB.out.cell 3; have b4 := HB.out.cell 4; have b5 := HB.out.cell 5; have b6 := HB.out.cell 6; clear hk8)
            | fail)
          go_ret
          exact ⟨congrArg (fun b => Ending.returned (Value.bool b)) (show ((t1 == t2) == sx) = true by rw [← HU.out]; by_cases h : t1 = t2 <;> simp [h]), HK.out⟩
        · have e2b : (e2 != 0) = true := by simp; exact h2
          clear hun h2
          go_enter Tryz.func9, Tryz.ntmps9
          go_wp2_with (first
            | (go_at_call 10; (with_reducible refine (L1 _ HK.out).mono ?_); rintro e w3 ⟨rfl, hk3⟩; have HK := Lib.hid (Kept.trans HK.out hk3 (fun _ _ h => h)); have HA := Lib.hid (hk3.box HA.out (fun h => h)); have a0 := HA.out.cell 0; have a1 := HA.out.cell 1; have a2 := HA.out.cell 2; have a3 := HA.out.cell 3; have a4 := HA.out.cell 4; have a5 := HA.out.cell 5; have a6 := HA.out.cell 6; have HB := Lib.hid (hk3.box HB.out (fun h => h)); have b0 := HB.out.cell 0; have b1 := HB.out.cell 1; have b2 := HB.out.cell 2; have b3 := HB.out.cell 3; have b4 := HB.out.cell 4; have b5 := HB.out.cell 5; have b6 := HB.out.cell 6; clear hk3)
            | (go_at_call 10; (with_reducible refine (L2 _ HK.out).mono ?_); rintro e w4 ⟨rfl, hk4⟩; have HK := Lib.hid (Kept.trans HK.out hk4 (fun _ _ h => h)); have HA := Lib.hid (hk4.box HA.out (fun h => h)); have a0 := HA.out.cell 0; have a1 := HA.out.cell 1; have a2 := HA.out.cell 2; have a3 := HA.out.cell 3; have a4 := HA.out.cell 4; have a5 := HA.out.cell 5; have a6 := HA.out.cell 6; have HB := Lib.hid (hk4.box HB.out (fun h => h)); have b0 := HB.out.cell 0; have b1 := HB.out.cell 1; have b2 := HB.out.cell 2; have b3 := HB.out.cell 3; have b4 := HB.out.cell 4; have b5 := HB.out.cell 5; have b6 := HB.out.cell 6; clear hk4)
            | (go_at_call 11; (with_reducible refine (AC _ HK.out).mono ?_); rintro e w5 ⟨rfl, hk5⟩; have HK := Lib.hid (Kept.trans HK.out hk5 (fun _ _ h => h)); have HA := Lib.hid (hk5.box HA.out (fun h => h)); have a0 := HA.out.cell 0; have a1 := HA.out.cell 1; have a2 := HA.out.cell 2; have a3 := HA.out.cell 3; have a4 := HA.out.cell 4; have a5 := HA.out.cell 5; have a6 := HA.out.cell 6; have HB := Lib.hid (hk5.box HB.out (fun h => h)); have b0 := HB.out.cell 0; have b1 := HB.out.cell 1; have b2 := HB.out.cell 2; have b3 := HB.out.cell 3; have b4 := HB.out.cell 4; have b5 := HB.out.cell 5; have b6 := HB.out.cell 6; clear hk5)
            | (go_at_call 15; (with_reducible refine (T1 _ HK.out).mono ?_); rintro e w6 ⟨rfl, hk6⟩; have HK := Lib.hid (Kept.trans HK.out hk6 (fun _ _ h => h)); have HA := Lib.hid (hk6.box HA.out (fun h => h)); have a0 := HA.out.cell 0; have a1 := HA.out.cell 1; have a2 := HA.out.cell 2; have a3 := HA.out.cell 3; have a4 := HA.out.cell 4; have a5 := HA.out.cell 5; have a6 := HA.out.cell 6; have HB := Lib.hid (hk6.box HB.out (fun h => h)); have b0 := HB.out.cell 0; have b1 := HB.out.cell 1; have b2 := HB.out.cell 2; have b3 := HB.out.cell 3; have b4 := HB.out.cell 4; have b5 := HB.out.cell 5; have b6 := HB.out.cell 6; clear hk6)
            | (go_at_call 15; (with_reducible refine (T2 _ HK.out).mono ?_); rintro e w7 ⟨rfl, hk7⟩; have HK := Lib.hid (Kept.trans HK.out hk7 (fun _ _ h => h)); have HA := Lib.hid (hk7.box HA.out (fun h => h)); have a0 := HA.out.cell 0; have a1 := HA.out.cell 1; have a2 := HA.out.cell 2; have a3 := HA.out.cell 3; have a4 := HA.out.cell 4; have a5 := HA.out.cell 5; have a6 := HA.out.cell 6; have HB := Lib.hid (hk7.box HB.out (fun h => h)); have b0 := HB.out.cell 0; have b1 := HB.out.cell 1; have b2 := HB.out.cell 2; have b3 := HB.out.cell 3; have b4 := HB.out.cell 4; have b5 := HB.out.cell 5; have b6 := HB.out.cell 6; clear hk7)
            | fail)
          go_ret
          exact ⟨rfl, HK.out⟩
      · have e1b : (e1 != 0) = true := by simp; exact h1
        clear hun h1
        go_enter Tryz.func9, Tryz.ntmps9
        go_wp2_with (first
          | (go_at_call 10; (with_reducible refine (L1 _ HK.out).mono ?_); rintro e w3 ⟨rfl, hk3⟩; have HK := Lib.hid (Kept.trans HK.out hk3 (fun _ _ h => h)); have HA := Lib.hid (hk3.box HA.out (fun h => h)); have a0 := HA.out.cell 0; have a1 := HA.out.cell 1; have a2 := HA.out.cell 2; have a3 := HA.out.cell 3; have a4 := HA.out.cell 4; have a5 := HA.out.cell 5; have a6 := HA.out.cell 6; have HB := Lib.hid (hk3.box HB.out (fun h => h)); have b0 := HB.out.cell 0; have b1 := HB.out.cell 1; have b2 := HB.out.cell 2; have b3 := HB.out.cell 3; have b4 := HB.out.cell 4; have b5 := HB.out.cell 5; have b6 := HB.out.cell 6; clear hk3)
          | (go_at_call 10; (with_reducible refine (L2 _ HK.out).mono ?_); rintro e w4 ⟨rfl, hk4⟩; have HK := Lib.hid (Kept.trans HK.out hk4 (fun _ _ h => h)); have HA := Lib.hid (hk4.box HA.out (fun h => h)); have a0 := HA.out.cell 0; have a1 := HA.out.cell 1; have a2 := HA.out.cell 2; have a3 := HA.out.cell 3; have a4 := HA.out.cell 4; have a5 := HA.out.cell 5; have a6 := HA.out.cell 6; have HB := Lib.hid (hk4.box HB.out (fun h => h)); have b0 := HB.out.cell 0; have b1 := HB.out.cell 1; have b2 := HB.out.cell 2; have b3 := HB.out.cell 3; have b4 := HB.out.cell 4; have b5 := HB.out.cell 5; have b6 := HB.out.cell 6; clear hk4)
          | (go_at_call 11; (with_reducible refine (AC _ HK.out).mono ?_); rintro e w5 ⟨rfl, hk5⟩; have HK := Lib.hid (Kept.trans HK.out hk5 (fun _ _ h => h)); have HA := Lib.hid (hk5.box HA.out (fun h => h)); have a0 := HA.out.cell 0; have a1 := HA.out.cell 1; have a2 := HA.out.cell 2; have a3 := HA.out.cell 3; have a4 := HA.out.cell 4; have a5 := HA.out.cell 5; have a6 := HA.out.cell 6; have HB := Lib.hid (hk5.box HB.out (fun h => h)); have b0 := HB.out.cell 0; have b1 := HB.out.cell 1; have b2 := HB.out.cell 2; have b3 := HB.out.cell 3; have b4 := HB.out.cell 4; have b5 := HB.out.cell 5; have b6 := HB.out.cell 6; clear hk5)
          | (go_at_call 15; (with_reducible refine (T1 _ HK.out).mono ?_); rintro e w6 ⟨rfl, hk6⟩; have HK := Lib.hid (Kept.trans HK.out hk6 (fun _ _ h => h)); have HA := Lib.hid (hk6.box HA.out (fun h => h)); have a0 := HA.out.cell 0; have a1 := HA.out.cell 1; have a2 := HA.out.cell 2; have a3 := HA.out.cell 3; have a4 := HA.out.cell 4; have a5 := HA.out.cell 5; have a6 := HA.out.cell 6; have HB := Lib.hid (hk6.box HB.out (fun h => h)); have b0 := HB.out.cell 0; have b1 := HB.out.cell 1; have b2 := HB.out.cell 2; have b3 := HB.out.cell 3; have b4 := HB.out.cell 4; have b5 := HB.out.cell 5; have b6 := HB.out.cell 6; clear hk6)
          | (go_at_call 15; (with_reducible refine (T2 _ HK.out).mono ?_); rintro e w7 ⟨rfl, hk7⟩; have HK := Lib.hid (Kept.trans HK.out hk7 (fun _ _ h => h)); have HA := Lib.hid (hk7.box HA.out (fun h => h)); have a0 := HA.out.cell 0; have a1 := HA.out.cell 1; have a2 := HA.out.cell 2; have a3 := HA.out.cell 3; have a4 := HA.out.cell 4; have a5 := HA.out.cell 5; have a6 := HA.out.cell 6; have HB := Lib.hid (hk7.box HB.out (fun h => h)); have b0 := HB.out.cell 0; have b1 := HB.out.cell 1; have b2 := HB.out.cell 2; have b3 := HB.out.cell 3; have b4 := HB.out.cell 4; have b5 := HB.out.cell 5; have b6 := HB.out.cell 6; clear hk7)
          | fail)
        go_ret
        exact ⟨rfl, HK.out⟩
end Go.Proofs.YtfijhanfcppmgaaGreatDoor
