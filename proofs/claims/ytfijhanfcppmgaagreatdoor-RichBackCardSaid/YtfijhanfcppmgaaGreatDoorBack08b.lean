/-
  The walk over the law RichBack where Parse reads s; the law whole. Conditions: as each theorem states.
-/
import Derived.Test.YtfijhanfcppmgaaGreatDoorBack08
import Derived.Test.YtfijhanfcppmgaaGreatDoorMathLex3
namespace Go.Proofs.YtfijhanfcppmgaaGreatDoor
open Go.RowKit Rich
open Lex (join)

set_option maxRecDepth 100000 in
set_option maxHeartbeats 8000000 in
theorem richback_okA (w : World) (hAw : AwakeK8 w) (hSh : ShowK8 w) (hWh : WholeK8 w) (hP : ParseK8 w) (x : R) (v : Value) (hr : RichS w x v) (hf : fitsX x) (s : ByteArray) (y : R) (hok : parseF s.data.toList = .ok y) (hw : whole x = false) (hs : showN x = ([], 4)) (n1 : ¬ (10000 : Int) < (s.size : Int)) (hm : (muchX x 0).2 = false) : Calls Tryz.prog 6 #[v, .string s] w fun e w' => e = .returned (.bool true) ∧ Kept (fun _ => False) w w' := by
  obtain ⟨i0, hi, hz0, hz1, hz2⟩ := info_parts info_str
  have AC := fun W (hk : Kept (fun _ => False) w W) => hAw W hk
  have L1 := fun W (hk : Kept (fun _ => False) w W) => large8_walk x v W (RichS.kept hk x v hr) hf
  rw [hm] at L1
  obtain ⟨sx, cx⟩ := large_no hm
  have T1 := fun W (hk : Kept (fun _ => False) w W) => hSh x v W (RichS.kept hk x v hr) sx cx hk
  have WC := fun W (hk : Kept (fun _ => False) w W) => hWh x v W (RichS.kept hk x v hr) sx cx hk
  have PS := fun W (hk : Kept (fun _ => False) w W) => hP s W (by omega) hk
  have HN1 := Lib.hid n1
  obtain ⟨hy, hyw, hyb, hyl⟩ := parse_ok8 hok
  rw [ans_ok hok] at PS
  simp only at PS
  have T2 : ∀ (v : Value) W, RichS W y v → Kept (fun _ => False) w W → Calls Tryz.prog 15 #[v] W fun e w' => e = .returned (.tuple #[.string ⟨(showN y).1.toArray⟩, .int .i64 (showN y).2]) ∧ Kept (fun _ => False) W w' := fun v W hr hk => by
    obtain ⟨q1, q2, _⟩ := whole_iff.1 hy
    exact hSh y v W hr (part_small y q1 (by omega)).1 (by omega) hk
  obtain ⟨ws, hws⟩ : ∃ ws, ws = Lex.words s.data.toList := ⟨_, rfl⟩
  have LC := fun W => words_lit7 (words_k W) s (by have e : s.data.toList.length = s.size := rfl; omega) ws 0 0 (by rw [hws]; exact Lex.answer_ok hyl hyb) W (Kept.refl _ _)
  obtain ⟨f1, f2, f3⟩ := Lex.lies_facts _ _ _ _ (Lex.lies_words hyb)
  rw [← hws] at f1 f2 f3 hyw
  have hbt : bytesL (textsW ws) = wordsR y := by
    rw [← hyw]
    simp [bytesL, textsW]
  have hjl := Lex.joinF_len (ws.map Prod.fst) none
  rw [hyw] at hjl f2 f3
  have hmm : (wordsR y).length = ws.length := by rw [← hyw]; simp
  have hwl : ws.length ≤ 4096 := by omega
  have hjb : (join (wordsR y)).length ≤ 100000 := by unfold Lex.join; omega
  have JC := fun (va : Value) W (ha : StrS W va (textsW ws)) => join_walk va (textsW ws) W (by simp [textsW]; omega) (by rw [hbt]; exact hjb) ha
  rw [hbt] at JC
  have HPS := Lib.hid (show ∀ (i : Nat) p, ws[i]? = some p → p.1.length ≤ 4096 from fun i p hp => by
    have h := Lex.words_cut hyb (i := i) (t := p.1) (a := p.2) (by rw [← hws]; exact hp)
    have e : s.data.toList.length = s.size := rfl
    omega)
  have HW2 : Hid ((4096 < (join (wordsR y)).length ∧ showN y = ([], 40)) ∨ (¬ 4096 < (join (wordsR y)).length ∧ showN y = (join (wordsR y), 0))) := Lib.hid (by
    rcases show_ways y with ⟨h, _⟩ | h | h
    · rw [hy] at h; exact absurd h (by simp)
    · exact .inl h.2
    · exact .inr h.2)
  rw [hs] at T1
  rw [hw] at WC
  clear hs hw
  generalize join (wordsR y) = tj at *
  clear hSh hWh hAw hP hm sx cx  hok hy hyw hyb hyl hws f1 f2 f3 hbt hjl hmm hjb
  obtain ⟨k, d, l⟩ := x
  rw [RichS] at hr
  obtain ⟨ao, cp, rfl, _⟩ := hr
  have HA := Lib.hid (Box.made w 28 (richA k d (.slice ao l.length cp)))
  have HK := Lib.hid ((Kept.refl (fun _ => False) w).alloc (.cells (richA k d (.slice ao l.length cp)) 28))
  obtain ⟨ky, dy, ly⟩ := y
  go_enter Tryz.func6, Tryz.ntmps6
  go_wp2_with (first
    | (go_at_call 10; (with_reducible refine (L1 _ HK.out).mono ?_); rintro e w3 ⟨rfl, hk3⟩; have HK := Lib.hid (Kept.trans HK.out hk3 (fun _ _ h => h)); have HA := Lib.hid (hk3.box HA.out (fun h => h)); have a0 := HA.out.cell 0; have a1 := HA.out.cell 1; have a2 := HA.out.cell 2; have a3 := HA.out.cell 3; have a4 := HA.out.cell 4; have a5 := HA.out.cell 5; have a6 := HA.out.cell 6; clear hk3)
    | (go_at_call 11; (with_reducible refine (AC _ HK.out).mono ?_); rintro e w4 ⟨rfl, hk4⟩; have HK := Lib.hid (Kept.trans HK.out hk4 (fun _ _ h => h)); have HA := Lib.hid (hk4.box HA.out (fun h => h)); have a0 := HA.out.cell 0; have a1 := HA.out.cell 1; have a2 := HA.out.cell 2; have a3 := HA.out.cell 3; have a4 := HA.out.cell 4; have a5 := HA.out.cell 5; have a6 := HA.out.cell 6; clear hk4)
    | (go_at_call 15; (with_reducible refine (T1 _ HK.out).mono ?_); rintro e w5 ⟨rfl, hk5⟩; have HK := Lib.hid (Kept.trans HK.out hk5 (fun _ _ h => h)); have HA := Lib.hid (hk5.box HA.out (fun h => h)); have a0 := HA.out.cell 0; have a1 := HA.out.cell 1; have a2 := HA.out.cell 2; have a3 := HA.out.cell 3; have a4 := HA.out.cell 4; have a5 := HA.out.cell 5; have a6 := HA.out.cell 6; clear hk5)
    | (go_at_call 18; (with_reducible refine (WC _ HK.out).mono ?_); rintro e w6 ⟨rfl, hk6⟩; have HK := Lib.hid (Kept.trans HK.out hk6 (fun _ _ h => h)); have HA := Lib.hid (hk6.box HA.out (fun h => h)); have a0 := HA.out.cell 0; have a1 := HA.out.cell 1; have a2 := HA.out.cell 2; have a3 := HA.out.cell 3; have a4 := HA.out.cell 4; have a5 := HA.out.cell 5; have a6 := HA.out.cell 6; clear hk6)
    | (go_at_call 21; (with_reducible refine (PS _ HK.out).mono ?_); rintro e w9 ⟨⟨v9, rfl, hv9⟩, hk9⟩; have HK := Lib.hid (Kept.trans HK.out hk9 (fun _ _ h => h)); have hv92 := hv9; rw [RichS] at hv92; obtain ⟨ao9, cp9, rfl, _⟩ := hv92; have HY := Lib.hid hv9; clear hv9 hk9)
    | (go_at_call 24; (refine (LC _).mono ?_); rintro e w11 ⟨⟨v11, rfl, hv11⟩, hk11⟩; have HBY := Lib.hid (hk11.box (Box.made w9 28 (richA ky dy (.slice ao9 ly.length cp9))) (fun h => h)); have HY := Lib.hid (RichS.kept (((Kept.refl (fun _ => False) w9).alloc _).trans hk11 (fun _ _ h => h)) _ _ HY.out); have HK := Lib.hid ((HK.out.alloc _).trans hk11 (fun _ _ h => h)); have HV := Lib.hid hv11; clear hk11 hv11; obtain ⟨a11, c11, e11, _⟩ := HV.out; subst e11)
    | fail)
  go_loopw [16, 17] (fun v16 v17 wr => ∃ (i : Nat) (vt : Value), v17 = .int .i64 (i : Int) ∧ v16 = vt ∧ i ≤ ws.length ∧ Hid (wr.ownsRow w11.heap.size 9 1 vt i (cellsS (textsW (ws.take i)))) ∧ Hid (Kept (fun _ => False) w11 wr)) (fun _ v17 _ => ws.length - (intOf v17).toNat)
  case atStart => exact ⟨0, _, rfl, rfl, Nat.zero_le _, Lib.hid (World.ownsRow_nil _ _ _ _), Lib.hid (Kept.refl _ _)⟩
  case round =>
    obtain ⟨i, vt, rfl, hvt, hil, HR8, HL⟩ := hrel
    replace hvt := hvt.symm
    subst hvt
    rename World => w8
    by_cases hlt : i < ws.length
    · obtain ⟨p, hp⟩ : ∃ p, ws[i]? = some p := ⟨_, List.getElem?_eq_getElem hlt⟩
      obtain ⟨ao8, cp8, f1, hh⟩ := HV.out.kept HL.out
      obtain ⟨gb, e1, k0, _, _⟩ := hh i p hp
      injection f1 with f1 _ f1'
      subst f1
      subst f1'
      subst e1
      obtain ⟨u, hu⟩ : ∃ u : ByteArray, u = ⟨p.1.toArray⟩ := ⟨_, rfl⟩
      rw [← hu] at k0
      have hus : u.size ≤ 4096 := by
        have := HPS.out i p hp
        rw [hu]
        simpa [ByteArray.size] using this
      have HT1 := Lib.hid (show cellsS (textsW (ws.take i)) ++ cellsS [u] = cellsS (textsW (ws.take (i + 1))) by
        rw [List.take_add_one, hp, hu]
        simp [cellsS, textsW])
      obtain ⟨a3, c3, e3⟩ := own_form HR8.out
      subst e3
      have hi0 : (0 : Int) ≤ (i : Int) := by omega
      have hiI : (i : Int) < (ws.length : Int) := by omega
      clear hh hp hu
      go_wp2_with (first
        | (at_builtin; go_loud (refine wpList_append_own_at _ rfl _ _ 32 rfl w11.heap.size 9 i0 (.string ⟨#[]⟩) 1 16 Tryz.underlying32 hi hz0 hz1 hz2 rfl (by decide) _ _ _ rfl (HR8.out.alloc _) ⟨w8.heap.size, 0, none⟩ 1 1 (cellsS [u]) rfl rfl (by intro j x hj; match j, hj with | 0, hj => (simp [cellsS] at hj; subst hj; simp [Addr.add]) | j + 1, hj => simp [cellsS] at hj) (cellsS_one _) (by unfold maxLen; omega) (by omega) (by have := HL.out.size; simp; omega) ?_; intro v' w9 hown' hgrow _ _))
        | fail)
      refine ⟨⟨i + 1, _, by go_num, rfl, by omega, Lib.hid ?_, Lib.hid ?_⟩, by simp [intOf]; omega⟩
      · rw [← HT1.out]
        exact hown'
      · exact (HL.out.alloc _).grown hgrow (fun j hj => .inr (HR8.out.lt j hj).1)
    · obtain rfl : i = ws.length := by omega
      have hge : ¬ (ws.length : Int) < (ws.length : Int) := by omega
      have hrow : w8.ownsRow w11.heap.size 9 1 vt (textsW ws).length (cellsS (textsW ws)) := by
        have h := HR8.out
        rw [List.take_length] at h
        simpa [textsW] using h
      have hst := own_strs hrow
      obtain ⟨a3, c3, e3, _⟩ := hst
      have hst := own_strs hrow
      subst e3
      have HS := Lib.hid hst
      have htl : (textsW ws).length = ws.length := by simp [textsW]
      rw [htl] at HS
      clear hrow hst htl
      simp only [textsW, List.length_map]
      have HB2 := Lib.hid (HL.out.box HBY.out (fun h => h))
      have b0 := HB2.out.cell 0; have b1 := HB2.out.cell 1; have b2 := HB2.out.cell 2; have b3 := HB2.out.cell 3; have b4 := HB2.out.cell 4; have b5 := HB2.out.cell 5; have b6 := HB2.out.cell 6
      have hway := HW2.out
      obtain ⟨tb, hTB⟩ : ∃ tb : ByteArray, tb = ⟨tj.toArray⟩ := ⟨_, rfl⟩
      have hts : tb.size = tj.length := by rw [hTB]; simp [ByteArray.size]
      rw [← hTB] at JC
      rcases hway with ⟨hl4, hs4⟩ | ⟨hl4, hs4⟩
      all_goals
        rw [hs4] at T2
        simp only at T2
        try rw [← hTB] at T2
        have hlI : (4096 : Int) < (tb.size : Int) ∨ ¬ (4096 : Int) < (tb.size : Int) := by omega
        clear hs4 HW2 hTB
      · replace hlI : (4096 : Int) < (tb.size : Int) := by omega
        go_wp2_with (first
          | (go_at_call 15; (refine (T2 _ _ (RichS.kept HL.out _ _ HY.out) (HK.out.trans HL.out (fun _ _ h => h))).mono ?_); rintro e w12 ⟨rfl, hk12⟩; have HS := Lib.hid (HS.out.kept hk12 (fun _ _ _ _ h => h)); have HL := Lib.hid (HL.out.trans hk12 (fun _ _ h => h)); clear hk12)
          | (go_at_call 25; (with_reducible refine (JC _ _ HS.out).mono ?_); rintro e w13 ⟨rfl, hk13⟩; have HL := Lib.hid (HL.out.trans hk13 (fun _ _ h => h)); clear hk13)
          | fail)
        go_ret
        refine ⟨?_, HK.out.trans HL.out (fun _ _ h => h)⟩
        show Ending.returned (.bool (decide ((4096 : Int) < (tj.length : Int)))) = _
        rw [decide_eq_true (by omega)]
      · clear hlI
        go_wp2_with (first
          | (go_at_call 15; (refine (T2 _ _ (RichS.kept HL.out _ _ HY.out) (HK.out.trans HL.out (fun _ _ h => h))).mono ?_); rintro e w12 ⟨rfl, hk12⟩; have HS := Lib.hid (HS.out.kept hk12 (fun _ _ _ _ h => h)); have HL := Lib.hid (HL.out.trans hk12 (fun _ _ h => h)); clear hk12)
          | (go_at_call 25; (with_reducible refine (JC _ _ HS.out).mono ?_); rintro e w13 ⟨rfl, hk13⟩; have HL := Lib.hid (HL.out.trans hk13 (fun _ _ h => h)); clear hk13)
          | fail)
        go_ret
        exact ⟨rfl, HK.out.trans HL.out (fun _ _ h => h)⟩
set_option maxRecDepth 100000 in
set_option maxHeartbeats 8000000 in
theorem richback_okB (w : World) (hAw : AwakeK8 w) (hSh : ShowK8 w) (hWh : WholeK8 w) (hP : ParseK8 w) (x : R) (v : Value) (hr : RichS w x v) (hf : fitsX x) (s : ByteArray) (y : R) (hok : parseF s.data.toList = .ok y) (hw : whole x = true) (hs : showN x = ([], 40)) (n1 : ¬ (10000 : Int) < (s.size : Int)) (hm : (muchX x 0).2 = false) : Calls Tryz.prog 6 #[v, .string s] w fun e w' => e = .returned (.bool true) ∧ Kept (fun _ => False) w w' := by
  obtain ⟨i0, hi, hz0, hz1, hz2⟩ := info_parts info_str
  have AC := fun W (hk : Kept (fun _ => False) w W) => hAw W hk
  have L1 := fun W (hk : Kept (fun _ => False) w W) => large8_walk x v W (RichS.kept hk x v hr) hf
  rw [hm] at L1
  obtain ⟨sx, cx⟩ := large_no hm
  have T1 := fun W (hk : Kept (fun _ => False) w W) => hSh x v W (RichS.kept hk x v hr) sx cx hk
  have WC := fun W (hk : Kept (fun _ => False) w W) => hWh x v W (RichS.kept hk x v hr) sx cx hk
  have PS := fun W (hk : Kept (fun _ => False) w W) => hP s W (by omega) hk
  have HN1 := Lib.hid n1
  obtain ⟨hy, hyw, hyb, hyl⟩ := parse_ok8 hok
  rw [ans_ok hok] at PS
  simp only at PS
  have T2 : ∀ (v : Value) W, RichS W y v → Kept (fun _ => False) w W → Calls Tryz.prog 15 #[v] W fun e w' => e = .returned (.tuple #[.string ⟨(showN y).1.toArray⟩, .int .i64 (showN y).2]) ∧ Kept (fun _ => False) W w' := fun v W hr hk => by
    obtain ⟨q1, q2, _⟩ := whole_iff.1 hy
    exact hSh y v W hr (part_small y q1 (by omega)).1 (by omega) hk
  obtain ⟨ws, hws⟩ : ∃ ws, ws = Lex.words s.data.toList := ⟨_, rfl⟩
  have LC := fun W => words_lit7 (words_k W) s (by have e : s.data.toList.length = s.size := rfl; omega) ws 0 0 (by rw [hws]; exact Lex.answer_ok hyl hyb) W (Kept.refl _ _)
  obtain ⟨f1, f2, f3⟩ := Lex.lies_facts _ _ _ _ (Lex.lies_words hyb)
  rw [← hws] at f1 f2 f3 hyw
  have hbt : bytesL (textsW ws) = wordsR y := by
    rw [← hyw]
    simp [bytesL, textsW]
  have hjl := Lex.joinF_len (ws.map Prod.fst) none
  rw [hyw] at hjl f2 f3
  have hmm : (wordsR y).length = ws.length := by rw [← hyw]; simp
  have hwl : ws.length ≤ 4096 := by omega
  have hjb : (join (wordsR y)).length ≤ 100000 := by unfold Lex.join; omega
  have JC := fun (va : Value) W (ha : StrS W va (textsW ws)) => join_walk va (textsW ws) W (by simp [textsW]; omega) (by rw [hbt]; exact hjb) ha
  rw [hbt] at JC
  have HPS := Lib.hid (show ∀ (i : Nat) p, ws[i]? = some p → p.1.length ≤ 4096 from fun i p hp => by
    have h := Lex.words_cut hyb (i := i) (t := p.1) (a := p.2) (by rw [← hws]; exact hp)
    have e : s.data.toList.length = s.size := rfl
    omega)
  have HW2 : Hid ((4096 < (join (wordsR y)).length ∧ showN y = ([], 40)) ∨ (¬ 4096 < (join (wordsR y)).length ∧ showN y = (join (wordsR y), 0))) := Lib.hid (by
    rcases show_ways y with ⟨h, _⟩ | h | h
    · rw [hy] at h; exact absurd h (by simp)
    · exact .inl h.2
    · exact .inr h.2)
  rw [hs] at T1
  rw [hw] at WC
  clear hs hw
  generalize join (wordsR y) = tj at *
  clear hSh hWh hAw hP hm sx cx  hok hy hyw hyb hyl hws f1 f2 f3 hbt hjl hmm hjb
  obtain ⟨k, d, l⟩ := x
  rw [RichS] at hr
  obtain ⟨ao, cp, rfl, _⟩ := hr
  have HA := Lib.hid (Box.made w 28 (richA k d (.slice ao l.length cp)))
  have HK := Lib.hid ((Kept.refl (fun _ => False) w).alloc (.cells (richA k d (.slice ao l.length cp)) 28))
  obtain ⟨ky, dy, ly⟩ := y
  go_enter Tryz.func6, Tryz.ntmps6
  go_wp2_with (first
    | (go_at_call 10; (with_reducible refine (L1 _ HK.out).mono ?_); rintro e w3 ⟨rfl, hk3⟩; have HK := Lib.hid (Kept.trans HK.out hk3 (fun _ _ h => h)); have HA := Lib.hid (hk3.box HA.out (fun h => h)); have a0 := HA.out.cell 0; have a1 := HA.out.cell 1; have a2 := HA.out.cell 2; have a3 := HA.out.cell 3; have a4 := HA.out.cell 4; have a5 := HA.out.cell 5; have a6 := HA.out.cell 6; clear hk3)
    | (go_at_call 11; (with_reducible refine (AC _ HK.out).mono ?_); rintro e w4 ⟨rfl, hk4⟩; have HK := Lib.hid (Kept.trans HK.out hk4 (fun _ _ h => h)); have HA := Lib.hid (hk4.box HA.out (fun h => h)); have a0 := HA.out.cell 0; have a1 := HA.out.cell 1; have a2 := HA.out.cell 2; have a3 := HA.out.cell 3; have a4 := HA.out.cell 4; have a5 := HA.out.cell 5; have a6 := HA.out.cell 6; clear hk4)
    | (go_at_call 15; (with_reducible refine (T1 _ HK.out).mono ?_); rintro e w5 ⟨rfl, hk5⟩; have HK := Lib.hid (Kept.trans HK.out hk5 (fun _ _ h => h)); have HA := Lib.hid (hk5.box HA.out (fun h => h)); have a0 := HA.out.cell 0; have a1 := HA.out.cell 1; have a2 := HA.out.cell 2; have a3 := HA.out.cell 3; have a4 := HA.out.cell 4; have a5 := HA.out.cell 5; have a6 := HA.out.cell 6; clear hk5)
    | (go_at_call 18; (with_reducible refine (WC _ HK.out).mono ?_); rintro e w6 ⟨rfl, hk6⟩; have HK := Lib.hid (Kept.trans HK.out hk6 (fun _ _ h => h)); have HA := Lib.hid (hk6.box HA.out (fun h => h)); have a0 := HA.out.cell 0; have a1 := HA.out.cell 1; have a2 := HA.out.cell 2; have a3 := HA.out.cell 3; have a4 := HA.out.cell 4; have a5 := HA.out.cell 5; have a6 := HA.out.cell 6; clear hk6)
    | (go_at_call 21; (with_reducible refine (PS _ HK.out).mono ?_); rintro e w9 ⟨⟨v9, rfl, hv9⟩, hk9⟩; have HK := Lib.hid (Kept.trans HK.out hk9 (fun _ _ h => h)); have hv92 := hv9; rw [RichS] at hv92; obtain ⟨ao9, cp9, rfl, _⟩ := hv92; have HY := Lib.hid hv9; clear hv9 hk9)
    | (go_at_call 24; (refine (LC _).mono ?_); rintro e w11 ⟨⟨v11, rfl, hv11⟩, hk11⟩; have HBY := Lib.hid (hk11.box (Box.made w9 28 (richA ky dy (.slice ao9 ly.length cp9))) (fun h => h)); have HY := Lib.hid (RichS.kept (((Kept.refl (fun _ => False) w9).alloc _).trans hk11 (fun _ _ h => h)) _ _ HY.out); have HK := Lib.hid ((HK.out.alloc _).trans hk11 (fun _ _ h => h)); have HV := Lib.hid hv11; clear hk11 hv11; obtain ⟨a11, c11, e11, _⟩ := HV.out; subst e11)
    | fail)
  go_loopw [16, 17] (fun v16 v17 wr => ∃ (i : Nat) (vt : Value), v17 = .int .i64 (i : Int) ∧ v16 = vt ∧ i ≤ ws.length ∧ Hid (wr.ownsRow w11.heap.size 9 1 vt i (cellsS (textsW (ws.take i)))) ∧ Hid (Kept (fun _ => False) w11 wr)) (fun _ v17 _ => ws.length - (intOf v17).toNat)
  case atStart => exact ⟨0, _, rfl, rfl, Nat.zero_le _, Lib.hid (World.ownsRow_nil _ _ _ _), Lib.hid (Kept.refl _ _)⟩
  case round =>
    obtain ⟨i, vt, rfl, hvt, hil, HR8, HL⟩ := hrel
    replace hvt := hvt.symm
    subst hvt
    rename World => w8
    by_cases hlt : i < ws.length
    · obtain ⟨p, hp⟩ : ∃ p, ws[i]? = some p := ⟨_, List.getElem?_eq_getElem hlt⟩
      obtain ⟨ao8, cp8, f1, hh⟩ := HV.out.kept HL.out
      obtain ⟨gb, e1, k0, _, _⟩ := hh i p hp
      injection f1 with f1 _ f1'
      subst f1
      subst f1'
      subst e1
      obtain ⟨u, hu⟩ : ∃ u : ByteArray, u = ⟨p.1.toArray⟩ := ⟨_, rfl⟩
      rw [← hu] at k0
      have hus : u.size ≤ 4096 := by
        have := HPS.out i p hp
        rw [hu]
        simpa [ByteArray.size] using this
      have HT1 := Lib.hid (show cellsS (textsW (ws.take i)) ++ cellsS [u] = cellsS (textsW (ws.take (i + 1))) by
        rw [List.take_add_one, hp, hu]
        simp [cellsS, textsW])
      obtain ⟨a3, c3, e3⟩ := own_form HR8.out
      subst e3
      have hi0 : (0 : Int) ≤ (i : Int) := by omega
      have hiI : (i : Int) < (ws.length : Int) := by omega
      clear hh hp hu
      go_wp2_with (first
        | (at_builtin; go_loud (refine wpList_append_own_at _ rfl _ _ 32 rfl w11.heap.size 9 i0 (.string ⟨#[]⟩) 1 16 Tryz.underlying32 hi hz0 hz1 hz2 rfl (by decide) _ _ _ rfl (HR8.out.alloc _) ⟨w8.heap.size, 0, none⟩ 1 1 (cellsS [u]) rfl rfl (by intro j x hj; match j, hj with | 0, hj => (simp [cellsS] at hj; subst hj; simp [Addr.add]) | j + 1, hj => simp [cellsS] at hj) (cellsS_one _) (by unfold maxLen; omega) (by omega) (by have := HL.out.size; simp; omega) ?_; intro v' w9 hown' hgrow _ _))
        | fail)
      refine ⟨⟨i + 1, _, by go_num, rfl, by omega, Lib.hid ?_, Lib.hid ?_⟩, by simp [intOf]; omega⟩
      · rw [← HT1.out]
        exact hown'
      · exact (HL.out.alloc _).grown hgrow (fun j hj => .inr (HR8.out.lt j hj).1)
    · obtain rfl : i = ws.length := by omega
      have hge : ¬ (ws.length : Int) < (ws.length : Int) := by omega
      have hrow : w8.ownsRow w11.heap.size 9 1 vt (textsW ws).length (cellsS (textsW ws)) := by
        have h := HR8.out
        rw [List.take_length] at h
        simpa [textsW] using h
      have hst := own_strs hrow
      obtain ⟨a3, c3, e3, _⟩ := hst
      have hst := own_strs hrow
      subst e3
      have HS := Lib.hid hst
      have htl : (textsW ws).length = ws.length := by simp [textsW]
      rw [htl] at HS
      clear hrow hst htl
      simp only [textsW, List.length_map]
      have HB2 := Lib.hid (HL.out.box HBY.out (fun h => h))
      have b0 := HB2.out.cell 0; have b1 := HB2.out.cell 1; have b2 := HB2.out.cell 2; have b3 := HB2.out.cell 3; have b4 := HB2.out.cell 4; have b5 := HB2.out.cell 5; have b6 := HB2.out.cell 6
      have hway := HW2.out
      obtain ⟨tb, hTB⟩ : ∃ tb : ByteArray, tb = ⟨tj.toArray⟩ := ⟨_, rfl⟩
      have hts : tb.size = tj.length := by rw [hTB]; simp [ByteArray.size]
      rw [← hTB] at JC
      rcases hway with ⟨hl4, hs4⟩ | ⟨hl4, hs4⟩
      all_goals
        rw [hs4] at T2
        simp only at T2
        try rw [← hTB] at T2
        have hlI : (4096 : Int) < (tb.size : Int) ∨ ¬ (4096 : Int) < (tb.size : Int) := by omega
        clear hs4 HW2 hTB
      · replace hlI : (4096 : Int) < (tb.size : Int) := by omega
        go_wp2_with (first
          | (go_at_call 15; (refine (T2 _ _ (RichS.kept HL.out _ _ HY.out) (HK.out.trans HL.out (fun _ _ h => h))).mono ?_); rintro e w12 ⟨rfl, hk12⟩; have HS := Lib.hid (HS.out.kept hk12 (fun _ _ _ _ h => h)); have HL := Lib.hid (HL.out.trans hk12 (fun _ _ h => h)); clear hk12)
          | (go_at_call 25; (with_reducible refine (JC _ _ HS.out).mono ?_); rintro e w13 ⟨rfl, hk13⟩; have HL := Lib.hid (HL.out.trans hk13 (fun _ _ h => h)); clear hk13)
          | fail)
        go_ret
        refine ⟨?_, HK.out.trans HL.out (fun _ _ h => h)⟩
        show Ending.returned (.bool (decide ((4096 : Int) < (tj.length : Int)))) = _
        rw [decide_eq_true (by omega)]
      · clear hlI
        go_wp2_with (first
          | (go_at_call 15; (refine (T2 _ _ (RichS.kept HL.out _ _ HY.out) (HK.out.trans HL.out (fun _ _ h => h))).mono ?_); rintro e w12 ⟨rfl, hk12⟩; have HS := Lib.hid (HS.out.kept hk12 (fun _ _ _ _ h => h)); have HL := Lib.hid (HL.out.trans hk12 (fun _ _ h => h)); clear hk12)
          | (go_at_call 25; (with_reducible refine (JC _ _ HS.out).mono ?_); rintro e w13 ⟨rfl, hk13⟩; have HL := Lib.hid (HL.out.trans hk13 (fun _ _ h => h)); clear hk13)
          | fail)
        go_ret
        exact ⟨rfl, HK.out.trans HL.out (fun _ _ h => h)⟩
set_option maxRecDepth 100000 in
set_option maxHeartbeats 8000000 in
theorem richback_okC (w : World) (hAw : AwakeK8 w) (hSh : ShowK8 w) (hWh : WholeK8 w) (hP : ParseK8 w) (x : R) (v : Value) (hr : RichS w x v) (hf : fitsX x) (s : ByteArray) (y : R) (hok : parseF s.data.toList = .ok y) (hw : whole x = true) (hs : showN x = (join (wordsR x), 0)) (n1 : ¬ (10000 : Int) < (s.size : Int)) (hm : (muchX x 0).2 = false) : Calls Tryz.prog 6 #[v, .string s] w fun e w' => e = .returned (.bool true) ∧ Kept (fun _ => False) w w' := by
  obtain ⟨i0, hi, hz0, hz1, hz2⟩ := info_parts info_str
  have AC := fun W (hk : Kept (fun _ => False) w W) => hAw W hk
  have L1 := fun W (hk : Kept (fun _ => False) w W) => large8_walk x v W (RichS.kept hk x v hr) hf
  rw [hm] at L1
  obtain ⟨sx, cx⟩ := large_no hm
  have T1 := fun W (hk : Kept (fun _ => False) w W) => hSh x v W (RichS.kept hk x v hr) sx cx hk
  have WC := fun W (hk : Kept (fun _ => False) w W) => hWh x v W (RichS.kept hk x v hr) sx cx hk
  have PS := fun W (hk : Kept (fun _ => False) w W) => hP s W (by omega) hk
  have hsm := (sameX_iff x x).2 rfl
  have SC := fun (v v' : Value) W (hr : RichS W x v) (hr' : RichS W x v') => same8_walk x x v v' W hr hr' hf
  rw [hsm] at SC
  have hPT : ∀ t : List UInt8, showN x = (t, 0) → ∀ W, Kept (fun _ => False) w W → Calls Tryz.prog 21 #[.string ⟨t.toArray⟩] W fun e w' => (∃ v, e = .returned (.tuple #[v, .int .i64 0, .int .i64 0]) ∧ RichS w' x v) ∧ Kept (fun _ => False) W w' := fun t ht W hk => by
    obtain ⟨_, _, hl⟩ := show_zero ht
    have h := hP ⟨t.toArray⟩ W (by simp [ByteArray.size]; omega) hk
    rw [show (⟨t.toArray⟩ : ByteArray).data.toList = t from rfl, ans_ok (parse_show8 ht)] at h
    exact h
  have HR := Lib.hid hr
  have HN1 := Lib.hid n1
  obtain ⟨hy, hyw, hyb, hyl⟩ := parse_ok8 hok
  rw [ans_ok hok] at PS
  simp only at PS
  have T2 : ∀ (v : Value) W, RichS W y v → Kept (fun _ => False) w W → Calls Tryz.prog 15 #[v] W fun e w' => e = .returned (.tuple #[.string ⟨(showN y).1.toArray⟩, .int .i64 (showN y).2]) ∧ Kept (fun _ => False) W w' := fun v W hr hk => by
    obtain ⟨q1, q2, _⟩ := whole_iff.1 hy
    exact hSh y v W hr (part_small y q1 (by omega)).1 (by omega) hk
  obtain ⟨ws, hws⟩ : ∃ ws, ws = Lex.words s.data.toList := ⟨_, rfl⟩
  have LC := fun W => words_lit7 (words_k W) s (by have e : s.data.toList.length = s.size := rfl; omega) ws 0 0 (by rw [hws]; exact Lex.answer_ok hyl hyb) W (Kept.refl _ _)
  obtain ⟨f1, f2, f3⟩ := Lex.lies_facts _ _ _ _ (Lex.lies_words hyb)
  rw [← hws] at f1 f2 f3 hyw
  have hbt : bytesL (textsW ws) = wordsR y := by
    rw [← hyw]
    simp [bytesL, textsW]
  have hjl := Lex.joinF_len (ws.map Prod.fst) none
  rw [hyw] at hjl f2 f3
  have hmm : (wordsR y).length = ws.length := by rw [← hyw]; simp
  have hwl : ws.length ≤ 4096 := by omega
  have hjb : (join (wordsR y)).length ≤ 100000 := by unfold Lex.join; omega
  have JC := fun (va : Value) W (ha : StrS W va (textsW ws)) => join_walk va (textsW ws) W (by simp [textsW]; omega) (by rw [hbt]; exact hjb) ha
  rw [hbt] at JC
  have HPS := Lib.hid (show ∀ (i : Nat) p, ws[i]? = some p → p.1.length ≤ 4096 from fun i p hp => by
    have h := Lex.words_cut hyb (i := i) (t := p.1) (a := p.2) (by rw [← hws]; exact hp)
    have e : s.data.toList.length = s.size := rfl
    omega)
  have HW2 : Hid ((4096 < (join (wordsR y)).length ∧ showN y = ([], 40)) ∨ (¬ 4096 < (join (wordsR y)).length ∧ showN y = (join (wordsR y), 0))) := Lib.hid (by
    rcases show_ways y with ⟨h, _⟩ | h | h
    · rw [hy] at h; exact absurd h (by simp)
    · exact .inl h.2
    · exact .inr h.2)
  have PT := hPT _ hs
  rw [hs] at T1
  rw [hw] at WC
  clear hPT hs hw
  generalize join (wordsR y) = tj at *
  generalize join (wordsR x) = tx at *
  clear hSh hWh hAw hP hm sx cx hsm hok hy hyw hyb hyl hws f1 f2 f3 hbt hjl hmm hjb
  obtain ⟨k, d, l⟩ := x
  rw [RichS] at hr
  obtain ⟨ao, cp, rfl, _⟩ := hr
  have HA := Lib.hid (Box.made w 28 (richA k d (.slice ao l.length cp)))
  have HK := Lib.hid ((Kept.refl (fun _ => False) w).alloc (.cells (richA k d (.slice ao l.length cp)) 28))
  obtain ⟨ky, dy, ly⟩ := y
  go_enter Tryz.func6, Tryz.ntmps6
  go_wp2_with (first
    | (go_at_call 10; (with_reducible refine (L1 _ HK.out).mono ?_); rintro e w3 ⟨rfl, hk3⟩; have HK := Lib.hid (Kept.trans HK.out hk3 (fun _ _ h => h)); have HA := Lib.hid (hk3.box HA.out (fun h => h)); have a0 := HA.out.cell 0; have a1 := HA.out.cell 1; have a2 := HA.out.cell 2; have a3 := HA.out.cell 3; have a4 := HA.out.cell 4; have a5 := HA.out.cell 5; have a6 := HA.out.cell 6; clear hk3)
    | (go_at_call 11; (with_reducible refine (AC _ HK.out).mono ?_); rintro e w4 ⟨rfl, hk4⟩; have HK := Lib.hid (Kept.trans HK.out hk4 (fun _ _ h => h)); have HA := Lib.hid (hk4.box HA.out (fun h => h)); have a0 := HA.out.cell 0; have a1 := HA.out.cell 1; have a2 := HA.out.cell 2; have a3 := HA.out.cell 3; have a4 := HA.out.cell 4; have a5 := HA.out.cell 5; have a6 := HA.out.cell 6; clear hk4)
    | (go_at_call 15; (with_reducible refine (T1 _ HK.out).mono ?_); rintro e w5 ⟨rfl, hk5⟩; have HK := Lib.hid (Kept.trans HK.out hk5 (fun _ _ h => h)); have HA := Lib.hid (hk5.box HA.out (fun h => h)); have a0 := HA.out.cell 0; have a1 := HA.out.cell 1; have a2 := HA.out.cell 2; have a3 := HA.out.cell 3; have a4 := HA.out.cell 4; have a5 := HA.out.cell 5; have a6 := HA.out.cell 6; clear hk5)
    | (go_at_call 18; (with_reducible refine (WC _ HK.out).mono ?_); rintro e w6 ⟨rfl, hk6⟩; have HK := Lib.hid (Kept.trans HK.out hk6 (fun _ _ h => h)); have HA := Lib.hid (hk6.box HA.out (fun h => h)); have a0 := HA.out.cell 0; have a1 := HA.out.cell 1; have a2 := HA.out.cell 2; have a3 := HA.out.cell 3; have a4 := HA.out.cell 4; have a5 := HA.out.cell 5; have a6 := HA.out.cell 6; clear hk6)
    | (go_at_call 21; (with_reducible refine (PT _ HK.out).mono ?_); rintro e w7 ⟨⟨v7, rfl, hv7⟩, hk7⟩; have HK := Lib.hid (Kept.trans HK.out hk7 (fun _ _ h => h)); have HA := Lib.hid (hk7.box HA.out (fun h => h)); have a0 := fun ob => (HA.out.after_alloc ob).cell 0; have a1 := fun ob => (HA.out.after_alloc ob).cell 1; have a2 := fun ob => (HA.out.after_alloc ob).cell 2; have a3 := fun ob => (HA.out.after_alloc ob).cell 3; have a4 := fun ob => (HA.out.after_alloc ob).cell 4; have a5 := fun ob => (HA.out.after_alloc ob).cell 5; have a6 := fun ob => (HA.out.after_alloc ob).cell 6; have hv72 := hv7; rw [RichS] at hv72; obtain ⟨ao7, cp7, rfl, _⟩ := hv72; have HX := Lib.hid hv7; clear hv7 hk7)
    | (go_at_call 20; (with_reducible refine (SC _ _ _ (RichS.kept ((Kept.refl _ _).alloc _) _ _ HX.out) (RichS.kept (HK.out.alloc _) _ _ HR.out)).mono ?_); rintro e w8 ⟨rfl, hk8⟩; have HA := Lib.hid (hk8.box (HA.out.after_alloc _) (fun h => h)); have HK := Lib.hid ((HK.out.alloc _).trans hk8 (fun _ _ h => h)); have a0 := HA.out.cell 0; have a1 := HA.out.cell 1; have a2 := HA.out.cell 2; have a3 := HA.out.cell 3; have a4 := HA.out.cell 4; have a5 := HA.out.cell 5; have a6 := HA.out.cell 6; clear hk8)
    | (go_at_call 21; (with_reducible refine (PS _ HK.out).mono ?_); rintro e w9 ⟨⟨v9, rfl, hv9⟩, hk9⟩; have HK := Lib.hid (Kept.trans HK.out hk9 (fun _ _ h => h)); have hv92 := hv9; rw [RichS] at hv92; obtain ⟨ao9, cp9, rfl, _⟩ := hv92; have HY := Lib.hid hv9; clear hv9 hk9)
    | (go_at_call 24; (refine (LC _).mono ?_); rintro e w11 ⟨⟨v11, rfl, hv11⟩, hk11⟩; have HBY := Lib.hid (hk11.box (Box.made w9 28 (richA ky dy (.slice ao9 ly.length cp9))) (fun h => h)); have HY := Lib.hid (RichS.kept (((Kept.refl (fun _ => False) w9).alloc _).trans hk11 (fun _ _ h => h)) _ _ HY.out); have HK := Lib.hid ((HK.out.alloc _).trans hk11 (fun _ _ h => h)); have HV := Lib.hid hv11; clear hk11 hv11; obtain ⟨a11, c11, e11, _⟩ := HV.out; subst e11)
    | fail)
  go_loopw [16, 17] (fun v16 v17 wr => ∃ (i : Nat) (vt : Value), v17 = .int .i64 (i : Int) ∧ v16 = vt ∧ i ≤ ws.length ∧ Hid (wr.ownsRow w11.heap.size 9 1 vt i (cellsS (textsW (ws.take i)))) ∧ Hid (Kept (fun _ => False) w11 wr)) (fun _ v17 _ => ws.length - (intOf v17).toNat)
  case atStart => exact ⟨0, _, rfl, rfl, Nat.zero_le _, Lib.hid (World.ownsRow_nil _ _ _ _), Lib.hid (Kept.refl _ _)⟩
  case round =>
    obtain ⟨i, vt, rfl, hvt, hil, HR8, HL⟩ := hrel
    replace hvt := hvt.symm
    subst hvt
    rename World => w8
    by_cases hlt : i < ws.length
    · obtain ⟨p, hp⟩ : ∃ p, ws[i]? = some p := ⟨_, List.getElem?_eq_getElem hlt⟩
      obtain ⟨ao8, cp8, f1, hh⟩ := HV.out.kept HL.out
      obtain ⟨gb, e1, k0, _, _⟩ := hh i p hp
      injection f1 with f1 _ f1'
      subst f1
      subst f1'
      subst e1
      obtain ⟨u, hu⟩ : ∃ u : ByteArray, u = ⟨p.1.toArray⟩ := ⟨_, rfl⟩
      rw [← hu] at k0
      have hus : u.size ≤ 4096 := by
        have := HPS.out i p hp
        rw [hu]
        simpa [ByteArray.size] using this
      have HT1 := Lib.hid (show cellsS (textsW (ws.take i)) ++ cellsS [u] = cellsS (textsW (ws.take (i + 1))) by
        rw [List.take_add_one, hp, hu]
        simp [cellsS, textsW])
      obtain ⟨a3, c3, e3⟩ := own_form HR8.out
      subst e3
      have hi0 : (0 : Int) ≤ (i : Int) := by omega
      have hiI : (i : Int) < (ws.length : Int) := by omega
      clear hh hp hu
      go_wp2_with (first
        | (at_builtin; go_loud (refine wpList_append_own_at _ rfl _ _ 32 rfl w11.heap.size 9 i0 (.string ⟨#[]⟩) 1 16 Tryz.underlying32 hi hz0 hz1 hz2 rfl (by decide) _ _ _ rfl (HR8.out.alloc _) ⟨w8.heap.size, 0, none⟩ 1 1 (cellsS [u]) rfl rfl (by intro j x hj; match j, hj with | 0, hj => (simp [cellsS] at hj; subst hj; simp [Addr.add]) | j + 1, hj => simp [cellsS] at hj) (cellsS_one _) (by unfold maxLen; omega) (by omega) (by have := HL.out.size; simp; omega) ?_; intro v' w9 hown' hgrow _ _))
        | fail)
      refine ⟨⟨i + 1, _, by go_num, rfl, by omega, Lib.hid ?_, Lib.hid ?_⟩, by simp [intOf]; omega⟩
      · rw [← HT1.out]
        exact hown'
      · exact (HL.out.alloc _).grown hgrow (fun j hj => .inr (HR8.out.lt j hj).1)
    · obtain rfl : i = ws.length := by omega
      have hge : ¬ (ws.length : Int) < (ws.length : Int) := by omega
      have hrow : w8.ownsRow w11.heap.size 9 1 vt (textsW ws).length (cellsS (textsW ws)) := by
        have h := HR8.out
        rw [List.take_length] at h
        simpa [textsW] using h
      have hst := own_strs hrow
      obtain ⟨a3, c3, e3, _⟩ := hst
      have hst := own_strs hrow
      subst e3
      have HS := Lib.hid hst
      have htl : (textsW ws).length = ws.length := by simp [textsW]
      rw [htl] at HS
      clear hrow hst htl
      simp only [textsW, List.length_map]
      have HB2 := Lib.hid (HL.out.box HBY.out (fun h => h))
      have b0 := HB2.out.cell 0; have b1 := HB2.out.cell 1; have b2 := HB2.out.cell 2; have b3 := HB2.out.cell 3; have b4 := HB2.out.cell 4; have b5 := HB2.out.cell 5; have b6 := HB2.out.cell 6
      have hway := HW2.out
      obtain ⟨tb, hTB⟩ : ∃ tb : ByteArray, tb = ⟨tj.toArray⟩ := ⟨_, rfl⟩
      have hts : tb.size = tj.length := by rw [hTB]; simp [ByteArray.size]
      rw [← hTB] at JC
      rcases hway with ⟨hl4, hs4⟩ | ⟨hl4, hs4⟩
      all_goals
        rw [hs4] at T2
        simp only at T2
        try rw [← hTB] at T2
        have hlI : (4096 : Int) < (tb.size : Int) ∨ ¬ (4096 : Int) < (tb.size : Int) := by omega
        clear hs4 HW2 hTB
      · replace hlI : (4096 : Int) < (tb.size : Int) := by omega
        go_wp2_with (first
          | (go_at_call 15; (refine (T2 _ _ (RichS.kept HL.out _ _ HY.out) (HK.out.trans HL.out (fun _ _ h => h))).mono ?_); rintro e w12 ⟨rfl, hk12⟩; have HS := Lib.hid (HS.out.kept hk12 (fun _ _ _ _ h => h)); have HL := Lib.hid (HL.out.trans hk12 (fun _ _ h => h)); clear hk12)
          | (go_at_call 25; (with_reducible refine (JC _ _ HS.out).mono ?_); rintro e w13 ⟨rfl, hk13⟩; have HL := Lib.hid (HL.out.trans hk13 (fun _ _ h => h)); clear hk13)
          | fail)
        go_ret
        refine ⟨?_, HK.out.trans HL.out (fun _ _ h => h)⟩
        show Ending.returned (.bool (decide ((4096 : Int) < (tj.length : Int)))) = _
        rw [decide_eq_true (by omega)]
      · clear hlI
        go_wp2_with (first
          | (go_at_call 15; (refine (T2 _ _ (RichS.kept HL.out _ _ HY.out) (HK.out.trans HL.out (fun _ _ h => h))).mono ?_); rintro e w12 ⟨rfl, hk12⟩; have HS := Lib.hid (HS.out.kept hk12 (fun _ _ _ _ h => h)); have HL := Lib.hid (HL.out.trans hk12 (fun _ _ h => h)); clear hk12)
          | (go_at_call 25; (with_reducible refine (JC _ _ HS.out).mono ?_); rintro e w13 ⟨rfl, hk13⟩; have HL := Lib.hid (HL.out.trans hk13 (fun _ _ h => h)); clear hk13)
          | fail)
        go_ret
        exact ⟨rfl, HK.out.trans HL.out (fun _ _ h => h)⟩
theorem richback_walk (w : World) (hAw : AwakeK8 w) (hSh : ShowK8 w) (hWh : WholeK8 w) (hP : ParseK8 w) (x : R) (v : Value) (hr : RichS w x v) (hf : fitsX x) (s : ByteArray) : Calls Tryz.prog 6 #[v, .string s] w fun e w' => e = .returned (.bool true) ∧ Kept (fun _ => False) w w' := by
  by_cases hm : (muchX x 0).2 = true
  · exact richback_awake w hAw x v hr hf s (.inl hm)
  have hm : (muchX x 0).2 = false := by simpa using hm
  by_cases hs : (10000 : Int) < (s.size : Int)
  · exact richback_awake w hAw x v hr hf s (.inr ⟨hm, hs⟩)
  cases hx : parseF s.data.toList with
  | error q => exact richback_err w hAw hSh hWh hP x v hr hf s ⟨q, hx⟩ hs hm
  | ok y =>
    rcases show_ways x with ⟨hw, h⟩ | ⟨hw, _, h⟩ | ⟨hw, _, h⟩
    · exact richback_okA w hAw hSh hWh hP x v hr hf s y hx hw h hs hm
    · exact richback_okB w hAw hSh hWh hP x v hr hf s y hx hw h hs hm
    · exact richback_okC w hAw hSh hWh hP x v hr hf s y hx hw h hs hm
end Go.Proofs.YtfijhanfcppmgaaGreatDoor
