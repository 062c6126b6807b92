/-
  What is asked of the program's Whole, Words, Show (layer 8). What is asked of Join (layer 7): words put together. The walks over the document's answer for layer 3: a number's digits. The walks over the document's answer for layer 3: Show. The walks over the document's answer for layer 6: a dependency's words. What the document's May and Words of layer 6 answer, as layer 8 asks it. The program's own Whole, Words, Show, Parse (layer 8) answer as the laws' walks ask. Conditions: what the row lists lies there. From what a row of layer 8 lists of the library's variables, and of the program's own tables, to what the walks ask of them. Conditions: as each theorem states.
-/
import Derived.Test.YtoebokgpdkklmaaGreatDoorK22
import Derived.Test.YtoebokgpdkklmaaGreatDoorK27
import Derived.Test.YtoebokgpdkklmaaGreatDoorK19
import Derived.Test.YtoebokgpdkklmaaGreatDoorK21
import Derived.Test.YtoebokgpdkklmaaGreatDoorK13
import Derived.Deep.RegionWith
import Derived.Test.YtoebokgpdkklmaaGreatDoorK18
import Derived.LoopN
import Derived.Test.YtoebokgpdkklmaaGreatDoorK09
import Derived.Test.YtoebokgpdkklmaaGreatDoorK14
namespace Go.Proofs.YtoebokgpdkklmaaGreatDoor
open Go.RowKit Rich Lex

theorem MayP8.on {w0 w : World} (h : MayP8 w0) (hk : Kept (fun _ => False) w0 w) : MayP8 w := fun d W h1 h2 => h d W h1 (hk.trans h2 (fun _ _ h => h))
set_option maxRecDepth 100000 in
set_option maxHeartbeats 2000000 in
theorem wholeK_of {w0 : World} (hMay : MayP8 w0) (hRow : RowsW w0) : WholeK8 w0 := by
  intro x v w hr hs _ hw
  have PC := wholeP_main w (hMay.on hw) (hRow.kept hw) x
  have HF := Lib.hid (goX_whole x)
  generalize whole x = wx at *
  have HR := Lib.hid hr
  obtain ⟨k, d, l⟩ := x
  rw [RichS] at hr
  obtain ⟨ao, cp, rfl, _⟩ := hr
  have HBr := Lib.hid ((Box.made w 28 (richA k d (.slice ao l.length cp))).after_alloc (.cells #[.int .i64 0] 49))
  have b0 := HBr.out.cell 0; have b1 := HBr.out.cell 1; have b2 := HBr.out.cell 2; have b3 := HBr.out.cell 3; have b4 := HBr.out.cell 4; have b5 := HBr.out.cell 5; have b6 := HBr.out.cell 6
  have HBc := Lib.hid (show Box ((w.alloc (.cells (richA k d (.slice ao l.length cp)) 28)).alloc (.cells #[.int .i64 0] 49)) (w.heap.size + 1) 49 #[.int .i64 ((0 : Nat) : Int)] from by
    have h := Box.made (w.alloc (.cells (richA k d (.slice ao l.length cp)) 28)) 49 #[.int .i64 0]
    rw [World.size_alloc] at h
    exact h)
  have HK := Lib.hid (((Kept.refl (fun _ => False) w).alloc (.cells (richA k d (.slice ao l.length cp)) 28)).alloc (.cells #[.int .i64 0] 49))
  clear hMay hRow hw
  go_enter Tryz.func13, Tryz.ntmps13
  go_wp2_with (first
    | (go_at_call 23; refine (PC _ 0 0 (w.heap.size + 1) _ _ rfl HR.out hs HK.out (by omega) HBc.out (by omega) (by omega)).mono ?_; rintro e w3 ⟨rfl, _, hk3⟩)
    | fail)
  go_ret
  exact ⟨by rw [← HF.out]; rfl, HK.out.trans hk3 (fun i hi h => by have h2 : i = w.heap.size + 1 := h; omega)⟩
set_option maxRecDepth 100000 in
set_option maxHeartbeats 2000000 in
theorem wordsK_of {w0 : World} (hD : WordsP8 w0) (hRow : RowsW w0) (hWh : WholeK8 w0) : WordsK8 w0 := by
  intro x v w hr hs hc hw
  have WC := fun W (hk : Kept (fun _ => False) w W) => hWh x v W (RichS.kept hk x v hr) hs hc (hw.trans hk (fun _ _ h => h))
  have PC := fun (hp : Rich.part x = true ∧ count x ≤ 24) W (hk : Kept (fun _ => False) w W) => wordsP_main w0 hD hRow x v W (hw.trans hk (fun _ _ h => h)) (RichS.kept hk x v hr) hp.1 hp.2
  have hpx : whole x = true → Rich.part x = true ∧ count x ≤ 24 := fun h => ⟨(whole_iff.1 h).1, (whole_iff.1 h).2.1⟩
  generalize wordsR x = wx at *
  generalize Rich.part x = px at *
  generalize whole x = hx at *
  generalize count x = cx at *
  obtain ⟨k, d, l⟩ := x
  rw [RichS] at hr
  obtain ⟨ao, cp, rfl, _⟩ := hr
  have HB := Lib.hid (Box.made w 28 (richA k d (.slice ao l.length cp)))
  have HK := Lib.hid ((Kept.refl (fun _ => False) w).alloc (.cells (richA k d (.slice ao l.length cp)) 28))
  clear hs hD hw hWh hRow
  cases hx with
  | false =>
    clear PC hpx
    go_enter Tryz.func8, Tryz.ntmps8
    go_wp2_with (first
      | (go_at_call 13; refine (WC _ HK.out).mono ?_; rintro e w3 ⟨rfl, hk3⟩; have HK := Lib.hid (Kept.trans HK.out hk3 (fun _ _ h => h)); have HB := Lib.hid (hk3.box HB.out (fun h => h)); have b0 := HB.out.cell 0; have b1 := HB.out.cell 1; have b2 := HB.out.cell 2; have b3 := HB.out.cell 3; have b4 := HB.out.cell 4; have b5 := HB.out.cell 5; have b6 := HB.out.cell 6; clear hk3)
      | fail)
    go_ret2
    exact ⟨⟨_, rfl, ⟨none, 0, rfl, fun j u hj => by simp at hj⟩⟩, HK.out⟩
  | true =>
    have PC := PC (hpx rfl)
    clear hpx
    go_enter Tryz.func8, Tryz.ntmps8
    go_wp2_with (first
      | (go_at_call 13; refine (WC _ HK.out).mono ?_; rintro e w3 ⟨rfl, hk3⟩; have HK := Lib.hid (Kept.trans HK.out hk3 (fun _ _ h => h)); have HB := Lib.hid (hk3.box HB.out (fun h => h)); have b0 := HB.out.cell 0; have b1 := HB.out.cell 1; have b2 := HB.out.cell 2; have b3 := HB.out.cell 3; have b4 := HB.out.cell 4; have b5 := HB.out.cell 5; have b6 := HB.out.cell 6; clear hk3)
      | (go_at_call 19; refine (PC _ HK.out).mono ?_; rintro e w6 ⟨⟨va, rfl, hs6⟩, hk6⟩; have HK := Lib.hid (Kept.trans HK.out hk6 (fun _ _ h => h)))
      | fail)
    go_ret2
    exact ⟨⟨_, rfl, hs6⟩, HK.out⟩
set_option maxRecDepth 100000 in
set_option maxHeartbeats 2000000 in
theorem showK_of8 {w0 : World} (hWo : WordsK8 w0) (hJ : JoinK7 w0) : ShowK8 w0 := by
  intro x v w hr hs hc hw
  have WC := fun W (hk : Kept (fun _ => False) w W) => hWo x v W (RichS.kept hk x v hr) hs hc (hw.trans hk (fun _ _ h => h))
  have hway := show_ways8 x
  have hjs := fun h => join_small (x := x) h
  have HJW := Lib.hid (fun (va : Value) W h1 h2 (hk : Kept (fun _ => False) w W) ha => hJ va (bytesV (wordsR x)) W h1 h2 (hw.trans hk (fun _ _ h => h)) ha)
  clear hWo hJ hw hs hc
  rcases hway with ⟨h1, h2⟩ | ⟨h1, h3, h2⟩ | ⟨h1, h3, h2⟩
  · rw [h1] at WC
    rw [h2]
    simp only [Bool.false_eq_true, if_false] at WC
    clear hjs h1 h2
    obtain ⟨k, d, l⟩ := x
    rw [RichS] at hr
    obtain ⟨ao, cp, rfl, _⟩ := hr
    have HK := Lib.hid ((Kept.refl (fun _ => False) w).alloc (.cells (richA k d (.slice ao l.length cp)) 28))
    go_enter Tryz.func10, Tryz.ntmps10
    go_wp2_with (first
      | (go_at_call 8; refine (WC _ HK.out).mono ?_; rintro e w3 ⟨⟨va, rfl, hs3⟩, hk3⟩; have HK := Lib.hid (Kept.trans HK.out hk3 (fun _ _ h => h)); have HS := Lib.hid hs3; clear hk3 hs3; obtain ⟨a3, c3, e3, _⟩ := HS.out; subst e3)
      | fail)
    go_ret2
    exact ⟨rfl, HK.out⟩
  · obtain ⟨j1, j2⟩ := hjs h1
    rw [h1] at WC
    rw [h2]
    simp only [if_true] at WC
    have hbt : bytesL (bytesV (wordsR x)) = wordsR x := by simp [bytesL, bytesV, Function.comp_def]
    have JC := fun (va : Value) W (hk : Kept (fun _ => False) w W) (ha : StrS W va (bytesV (wordsR x))) => HJW.out va W (by simp [bytesV]; omega) (by rw [hbt]; exact j1) hk ha
    clear HJW
    rw [hbt] at JC
    generalize bytesV (wordsR x) = bx at *
    generalize join (wordsR x) = jx at *
    obtain ⟨tb, hTB⟩ : ∃ tb : ByteArray, tb = ⟨jx.toArray⟩ := ⟨_, rfl⟩
    have hts : tb.size = jx.length := by rw [hTB]; simp [ByteArray.size]
    rw [← hTB] at JC

    have hlI : (4096 : Int) < (tb.size : Int) := by omega
    clear hjs h1 h2 h3 hbt j1 j2 hTB hts
    obtain ⟨k, d, l⟩ := x
    rw [RichS] at hr
    obtain ⟨ao, cp, rfl, _⟩ := hr
    have HK := Lib.hid ((Kept.refl (fun _ => False) w).alloc (.cells (richA k d (.slice ao l.length cp)) 28))
    go_enter Tryz.func10, Tryz.ntmps10
    go_wp2_with (first
      | (go_at_call 8; refine (WC _ HK.out).mono ?_; rintro e w3 ⟨⟨va, rfl, hs3⟩, hk3⟩; have HK := Lib.hid (Kept.trans HK.out hk3 (fun _ _ h => h)); have HS := Lib.hid hs3; clear hk3 hs3; obtain ⟨a3, c3, e3, _⟩ := HS.out; subst e3)
      | (go_at_call 21; (with_reducible refine (JC _ _ HK.out HS.out).mono ?_); rintro e w4 ⟨rfl, hk4⟩; have HK := Lib.hid (Kept.trans HK.out hk4 (fun _ _ h => h)); clear hk4)
      | fail)
    go_ret2
    exact ⟨rfl, HK.out⟩
  · obtain ⟨j1, j2⟩ := hjs h1
    rw [h1] at WC
    rw [h2]
    simp only [if_true] at WC
    have hbt : bytesL (bytesV (wordsR x)) = wordsR x := by simp [bytesL, bytesV, Function.comp_def]
    have JC := fun (va : Value) W (hk : Kept (fun _ => False) w W) (ha : StrS W va (bytesV (wordsR x))) => HJW.out va W (by simp [bytesV]; omega) (by rw [hbt]; exact j1) hk ha
    clear HJW
    rw [hbt] at JC
    generalize bytesV (wordsR x) = bx at *
    generalize join (wordsR x) = jx at *
    obtain ⟨tb, hTB⟩ : ∃ tb : ByteArray, tb = ⟨jx.toArray⟩ := ⟨_, rfl⟩
    have hts : tb.size = jx.length := by rw [hTB]; simp [ByteArray.size]
    rw [← hTB] at JC
    try simp only [← hTB]
    have hlI : ¬ (4096 : Int) < (tb.size : Int) := by omega
    clear hjs h1 h2 h3 hbt j1 j2 hTB hts
    obtain ⟨k, d, l⟩ := x
    rw [RichS] at hr
    obtain ⟨ao, cp, rfl, _⟩ := hr
    have HK := Lib.hid ((Kept.refl (fun _ => False) w).alloc (.cells (richA k d (.slice ao l.length cp)) 28))
    go_enter Tryz.func10, Tryz.ntmps10
    go_wp2_with (first
      | (go_at_call 8; refine (WC _ HK.out).mono ?_; rintro e w3 ⟨⟨va, rfl, hs3⟩, hk3⟩; have HK := Lib.hid (Kept.trans HK.out hk3 (fun _ _ h => h)); have HS := Lib.hid hs3; clear hk3 hs3; obtain ⟨a3, c3, e3, _⟩ := HS.out; subst e3)
      | (go_at_call 21; (with_reducible refine (JC _ _ HK.out HS.out).mono ?_); rintro e w4 ⟨rfl, hk4⟩; have HK := Lib.hid (Kept.trans HK.out hk4 (fun _ _ h => h)); clear hk4)
      | fail)
    go_ret2
    exact ⟨rfl, HK.out⟩
end Go.Proofs.YtoebokgpdkklmaaGreatDoor

namespace Go.Proofs.YtoebokgpdkklmaaGreatDoor
open Go.RowKit Lex

set_option maxRecDepth 100000 in
set_option maxHeartbeats 2000000 in
theorem join_walk (va : Value) (xs : List ByteArray) (w : World) (hx : xs.length ≤ 1000000) (hB : (join (bytesL xs)).length ≤ 100000) (ha : StrS w va xs) :
    Calls Tryz.prog 21 #[va] w fun e w' => e = .returned (.string ⟨(join (bytesL xs)).toArray⟩) ∧ Kept (fun _ => False) w w' := by
  have HA := Lib.hid ha
  obtain ⟨a1, c1, rfl, h1⟩ := ha
  have H1 := Lib.hid h1
  have HJ := Lib.hid hB
  clear h1 hB
  have HB0 := Lib.hid (show Bld w.heap.size w.heap.size (Lib.byteCells []) (w.alloc (.cells #[.pointer none, .slice none 0 0] 66)) from Lib.IsBuilderF.of (Lib.fresh_isBuilder 66 5 w))
  go_enter Tryz.func21, Tryz.ntmps21
  go_wp2_with fail
  go_loopw [8] (fun v8 wr => ∃ (i : Nat) (acc : List UInt8) (y : Option (List UInt8)), v8 = .int .i64 (i : Int) ∧ i ≤ xs.length ∧ Hid (acc ++ joinF y ((bytesL xs).drop i) = join (bytesL xs)) ∧ Hid (Prev7 xs i y) ∧ Hid (Bld w.heap.size w.heap.size (Lib.byteCells acc) wr) ∧ Hid (Kept (fun _ => False) w wr)) (fun v8 _ => xs.length - (intOf v8).toNat)
  case atStart => exact ⟨0, [], none, rfl, Nat.zero_le _, Lib.hid rfl, Lib.hid (.inl ⟨rfl, rfl⟩), HB0, Lib.hid ((Kept.refl _ _).alloc _)⟩
  case round =>
    obtain ⟨i, acc, y, rfl, hi, HP, HY, HB, HK⟩ := hrel
    rename World => wr
    have hz1 : acc.length ≤ 100000 := by
      have h := congrArg List.length HP.out
      rw [List.length_append] at h
      have := HJ.out
      omega
    have HS := Lib.hid HK.out.size
    by_cases hlt : i < xs.length
    · obtain ⟨x, hxu⟩ : ∃ u, xs[i]? = some u := ⟨_, List.getElem?_eq_getElem hlt⟩
      obtain ⟨p1, e1, k1, l1⟩ := H1.out i x hxu
      have hd : (bytesL xs).drop i = x.data.toList :: (bytesL xs).drop (i + 1) := drop_here (by simp [bytesL, hxu])
      have hp := HP.out
      rw [hd, joinF] at hp
      have hz2 : x.size ≤ 100000 := by
        have h := congrArg List.length hp
        simp only [List.length_append] at h
        have e : x.data.toList.length = x.size := rfl
        have := HJ.out
        omega
      have HN := Lib.hid (show Prev7 xs (i + 1) (some x.data.toList) from .inr ⟨i, x, rfl, hxu, rfl⟩)
      have none_sep : sep y x.data.toList = [] → (acc ++ x.data.toList) ++ joinF (some x.data.toList) ((bytesL xs).drop (i + 1)) = join (bytesL xs) := by
        intro e
        rw [e] at hp
        rw [List.append_assoc]
        exact hp
      have one_sep : sep y x.data.toList = [32] → ((acc ++ [32]) ++ x.data.toList) ++ joinF (some x.data.toList) ((bytesL xs).drop (i + 1)) = join (bytesL xs) := by
        intro e
        rw [e] at hp
        rw [List.append_assoc, List.append_assoc]
        exact hp
      have H0 := Lib.hid none_sep
      have HS1 := Lib.hid one_sep
      have hi0 : (0 : Int) ≤ (i : Int) := by omega
      have hiI : (i : Int) < (xs.length : Int) := by omega
      have k1w : wr.cell? (p1.add i) = some (.string x) := (HK.out.cell (p := p1.add i) (by rw [add_block]; exact l1) (fun h => h)).trans k1
      subst e1
      clear hp hd none_sep one_sep k1 l1
      rcases HY.out with ⟨h00, hy⟩ | ⟨j, z, hj, hz, hy⟩
      · subst h00
        subst hy
        have kz : wr.cell? p1 = some (.string x) := by have := k1w; unfold Addr.add at this; simpa using this
        have HP2 := Lib.hid (H0.out rfl)
        go_wp2_with (first
          | (go_at_call 35; refine (bw_text _ acc x _ HB.out (by first | omega | (simp; omega)) (by omega) (by have := HS.out; omega)).mono ?_; rintro e w6 ⟨rfl, hl6, hb6⟩; have HK := Lib.hid (kept_past HK.out hb6 (Nat.le_refl _)); have HB := Lib.hid hl6; clear hl6 hb6)
          | fail)
        go_roundw
        case rel => exact ⟨0 + 1, _, some x.data.toList, by go_num, by omega, HP2, HN, HB, HK⟩
        case measure => simp [intOf]; omega
      · subst hj
        subst hy
        obtain ⟨p2, e2, k2, l2⟩ := H1.out j z hz
        injection e2 with e2
        subst e2
        have k2w : wr.cell? (p1.add j) = some (.string z) := (HK.out.cell (p := p1.add j) (by rw [add_block]; exact l2) (fun h => h)).trans k2
        have ku : wr.cell? ⟨p1.block, p1.off + (j + 1), none⟩ = some (.string x) := by have := k1w; unfold Addr.add at this; simpa using this
        have hj0 : (0 : Int) < (j : Int) + 1 := by omega
        have hj1 : (0 : Int) ≤ (j : Int) := by omega
        have hjl : (j : Int) < (xs.length : Int) := by omega
        have hw1 : IntKind.i64.wrap ((j : Int) + 1 - 1) = (j : Int) := by rw [Int.add_sub_cancel]; exact IntWalk.i64_in _ ⟨by omega, by omega⟩
        have hw3 : IntKind.i64.wrap (j : Int) = (j : Int) := IntWalk.i64_in _ ⟨by omega, by omega⟩
        have q1 := eq_lit x [41]
        have q2 := eq_lit z [40]
        clear k2 l2
        by_cases b2 : z.data.toList = [40]
        · rw [decide_eq_true b2] at q2
          have HP2 := Lib.hid (H0.out (by simp [sep, b2]))
          clear b2 q1
          go_wp2_with (first
            | (go_at_call 35; refine (bw_text _ acc x _ HB.out (by first | omega | (simp; omega)) (by omega) (by have := HS.out; omega)).mono ?_; rintro e w6 ⟨rfl, hl6, hb6⟩; have HK := Lib.hid (kept_past HK.out hb6 (Nat.le_refl _)); have HB := Lib.hid hl6; clear hl6 hb6)
            | fail)
          go_roundw
          case rel => exact ⟨j + 1 + 1, _, some x.data.toList, by go_num, by omega, HP2, HN, HB, HK⟩
          case measure => simp [intOf]; omega
        · rw [decide_eq_false b2] at q2
          by_cases b1 : x.data.toList = [41]
          · rw [decide_eq_true b1] at q1
            have HP2 := Lib.hid (H0.out (by simp [sep, b1]))
            clear b1 b2
            go_wp2_with (first
              | (go_at_call 35; refine (bw_text _ acc x _ HB.out (by first | omega | (simp; omega)) (by omega) (by have := HS.out; omega)).mono ?_; rintro e w6 ⟨rfl, hl6, hb6⟩; have HK := Lib.hid (kept_past HK.out hb6 (Nat.le_refl _)); have HB := Lib.hid hl6; clear hl6 hb6)
              | fail)
            go_roundw
            case rel => exact ⟨j + 1 + 1, _, some x.data.toList, by go_num, by omega, HP2, HN, HB, HK⟩
            case measure => simp [intOf]; omega
          · rw [decide_eq_false b1] at q1
            have HP2 := Lib.hid (HS1.out (by simp [sep, b1, b2]))
            clear b1 b2
            go_wp2_with (first
              | (go_at_call 34; refine (bw_byte _ acc 32 32 rfl _ HB.out (by first | omega | (simp; omega)) (by have := HS.out; omega)).mono ?_; rintro e w5 ⟨rfl, hl5, hb5⟩; have HK := Lib.hid (kept_past HK.out hb5 (Nat.le_refl _)); have HS := Lib.hid (Nat.le_trans HS.out hb5.size); have HB := Lib.hid hl5; clear hl5 hb5)
              | (go_at_call 35; refine (bw_text _ (acc ++ [32]) x _ HB.out (by first | omega | (simp; omega)) (by omega) (by have := HS.out; omega)).mono ?_; rintro e w6 ⟨rfl, hl6, hb6⟩; have HK := Lib.hid (kept_past HK.out hb6 (Nat.le_refl _)); have HB := Lib.hid hl6; clear hl6 hb6)
              | fail)
            go_roundw
            case rel => exact ⟨j + 1 + 1, _, some x.data.toList, by go_num, by omega, HP2, HN, HB, HK⟩
            case measure => simp [intOf]; omega
    · have HF := Lib.hid (show acc = join (bytesL xs) by
        have h := HP.out
        rw [List.drop_of_length_le (by simp [bytesL]; omega), joinF, List.append_nil] at h
        exact h)
      have hge : ¬ (i : Int) < (xs.length : Int) := by omega
      have HX := Lib.hid (btext_walk w.heap.size w.heap.size acc _ HB.out (by have := HS.out; omega))
      go_wp2_with (go_at_call 36; refine HX.out.mono ?_; rintro e w7 ⟨rfl, hb⟩; have HK := Lib.hid (kept_past HK.out hb (Nat.le_refl _)); clear hb)
      go_ret
      exact ⟨by rw [← HF.out]; rfl, HK.out⟩
/-- What is asked of Join. -/
theorem join_k (w0 : World) : JoinK7 w0 := fun va xs W hx hB _ ha => join_walk va xs W hx hB ha
end Go.Proofs.YtoebokgpdkklmaaGreatDoor

namespace Go.Proofs.YtoebokgpdkklmaaGreatDoor
open Go.RowKit Ver Evr

theorem dig_eq (n m : Nat) (b : UInt8) (h : b = UInt8.ofNat m) (hm : m = 48 + n % 10) : b = dig n := by rw [h, hm]; rfl
set_option maxRecDepth 100000 in
theorem digits_one (n : Nat) (w : World) (hlt : n < 10) :
    Calls Tryz.prog 67 #[.int .i64 n] w fun e w' => e = .returned (.string ⟨(digits n).toArray⟩) ∧ Kept (fun _ => False) w w' := by
  rw [digits_small hlt]
  obtain ⟨b, hb, hx⟩ := byte_named (48 + n) (by omega) (48 + (n : Int)) (by omega)
  have hcv := one_byte_at (P := Tryz.prog) (src := 64) (dst := 9) Tryz.underlying64 Tryz.underlying5 Tryz.underlying9 _ b rfl
  have HB := Lib.hid (dig_eq n _ b hb (by omega))
  have hlt' : (n : Int) < 10 := by omega
  clear hb
  go_enter Tryz.func67, Tryz.ntmps67
  go_wp2
  go_ret
  exact ⟨by rw [← HB.out]; rfl, (Kept.refl _ _).alloc _⟩
theorem str_snoc (b : UInt8) (l : List UInt8) : Ending.returned (.string ((ByteArray.mk l.toArray) ++ (ByteArray.mk #[b]))) = Ending.returned (.string ⟨(l ++ [b]).toArray⟩) := by
  rw [ByteArray.mk_append_mk l [b]]
set_option maxRecDepth 100000 in
theorem digits_any : ∀ (k n : Nat), k ≤ 10 → n < 10 ^ (k + 1) → n ≤ 2147483647 → ∀ w : World,
    Calls Tryz.prog 67 #[.int .i64 n] w fun e w' => e = .returned (.string ⟨(digits n).toArray⟩) ∧ Kept (fun _ => False) w w' := by
  intro k
  induction k with
  | zero => intro n _ h1 _ w; exact digits_one n w (by simpa using h1)
  | succ k ih =>
    intro n hk h1 h2 w
    by_cases hlt : n < 10
    · exact digits_one n w hlt
    · have hd : n / 10 < 10 ^ (k + 1) := by rw [Nat.pow_succ] at h1; omega
      have IH := Lib.hid (fun w' => ih (n / 10) (by omega) hd (by omega) w')
      have hlen := digits_len k (n / 10) hd
      rw [digits_big hlt]
      clear ih hd h1
      obtain ⟨b, hb, hx⟩ := byte_named (48 + n % 10) (by omega) (IntKind.u8.wrap (IntKind.i64.wrap (48 + (n : Int).tmod 10))) (by
        rw [Int.tmod_eq_emod_of_nonneg (by omega), IntKind.wrap_i64, IntKind.wrap_u8]; omega)
      have hq : IntKind.i64.wrap ((n : Int) / 10) = ((n / 10 : Nat) : Int) := by rw [IntKind.wrap_i64]; omega
      have hcv := one_byte_at (P := Tryz.prog) (src := 64) (dst := 9) Tryz.underlying64 Tryz.underlying5 Tryz.underlying9 _ b rfl
      have HB := Lib.hid (dig_eq n _ b hb rfl)
      have hlt' : ¬ (n : Int) < 10 := by omega
      clear hb h2
      go_enter Tryz.func67, Tryz.ntmps67
      go_wp2_with fail
      have hsum : ¬ (9223372036854775807 < (digits (n / 10)).length + 1) := by omega
      go_region_with (first | (go_at_call 67; refine (IH.out _).mono ?_; rintro e w' ⟨rfl, K⟩; have hkc := fun (p : Addr) hp => K.cell (p := p) hp (fun x => x); have hks := K.size))
      all_goals go_wp2
      all_goals go_ret
      all_goals refine ⟨by rw [← HB.out]; exact str_snoc b _, ?_⟩
      all_goals repeat' (first | exact Kept.refl _ _ | refine Kept.alloc ?_ _ | refine Kept.drew ?_ | refine Kept.drewN ?_ _ | refine Kept.trans ?_ K (fun _ _ h => h.elim))
end Go.Proofs.YtoebokgpdkklmaaGreatDoor

namespace Go.Proofs.YtoebokgpdkklmaaGreatDoor
open Go.RowKit Ver Evr

set_option maxRecDepth 100000 in
set_option maxHeartbeats 2000000 in
theorem show_walk (n : Int) (v r : ByteArray) (w : World) (hv : v.size ≤ 1000000) (hr : r.size ≤ 1000000) :
    Calls Tryz.prog 47 #[evrV n v r] w fun e w' => e = .returned (showR n v r) ∧ Kept (fun _ => False) w w' := by
  have M1 := fun w => may_walk n v r true w hv hr
  unfold evrV at M1 ⊢
  have HA := Lib.hid (Box.made w 23 #[.int .i64 n, .string v, .string r])
  have HK0 := Lib.hid ((Kept.refl (fun _ => False) w).alloc (.cells #[.int .i64 n, .string v, .string r] 23))
  by_cases hm : mayE (evrE n v r) true = true
  · obtain ⟨h0, h1, h2, h3⟩ := may_parts hm
    have hvl : v.size ≤ 64 := (word_ok h2).2.2
    have hrl : r.size ≤ 64 := by
      rcases h3 with h3 | h3
      · have : r.data.toList.length = 0 := by rw [show r.data.toList = [] from h3]; rfl
        have e : r.data.toList.length = r.size := rfl
        omega
      · exact (word_ok h3).2.2
    have HM := Lib.hid hm
    rw [hm] at M1
    obtain ⟨k, rfl⟩ := Int.eq_ofNat_of_zero_le (show 0 ≤ n from h0)
    have hk : k ≤ 2147483647 := by have : (k : Int) ≤ 2147483647 := h1; omega
    have D1 := digits_any 9 k (by omega) (by omega) hk
    have hdl := digits_len 9 k (by omega)
    clear hm h0 h1 h2 h3 hv hr hk
    by_cases hp : 0 < k
    · have hp' : (0 : Int) < (k : Int) := by omega
      by_cases hr0 : r = ⟨#[]⟩
      · subst hr0
        have HP := Lib.hid hp
        have HF := Lib.hid (@show_yes (k : Int) v ⟨#[]⟩ (⟨(digits k).toArray⟩ ++ ⟨#[58]⟩ ++ v) HM.out (by
          unfold showE evrE
          simp only [app_list3]
          simp [HP.out]))
        clear hp
        go_enter Tryz.func47, Tryz.ntmps47
        go_wp2_with (first
          | (go_at_call 57; with_reducible refine (M1 _).mono ?_; rintro e w5 ⟨rfl, hk5⟩; have q0 := (hk5.box HA.out (fun h => h)).cell 0; have q1 := (hk5.box HA.out (fun h => h)).cell 1; have q2 := (hk5.box HA.out (fun h => h)).cell 2; have HB := Lib.hid (hk5.box HA.out (fun h => h)))
          | (go_at_call 67; with_reducible refine (D1 _).mono ?_; rintro e w6 ⟨rfl, hk6⟩; have q0 := (hk6.box HB.out (fun h => h)).cell 0; have q1 := (hk6.box HB.out (fun h => h)).cell 1; have q2 := (hk6.box HB.out (fun h => h)).cell 2)
          | fail)
        go_returns
        exact ⟨by rw [HF.out]; first | rfl | simp, (HK0.out.trans hk5 (fun _ _ h => h)).trans hk6 (fun _ _ h => h)⟩
      · obtain ⟨b1, b2⟩ := text_ne hr0
        have hr1 : ¬ r.data.toList = [] := fun e => hr0 (empty_text.1 e)
        have HRN := Lib.hid hr1
        have HP := Lib.hid hp
        have HF := Lib.hid (@show_yes (k : Int) v r (⟨(digits k).toArray⟩ ++ ⟨#[58]⟩ ++ v ++ ⟨#[45]⟩ ++ r) HM.out (by
          unfold showE evrE
          simp only [app_list3]
          simp [HP.out, HRN.out]))
        clear hp hr1 hr0
        go_enter Tryz.func47, Tryz.ntmps47
        go_wp2_with (first
          | (go_at_call 57; with_reducible refine (M1 _).mono ?_; rintro e w5 ⟨rfl, hk5⟩; have q0 := (hk5.box HA.out (fun h => h)).cell 0; have q1 := (hk5.box HA.out (fun h => h)).cell 1; have q2 := (hk5.box HA.out (fun h => h)).cell 2; have HB := Lib.hid (hk5.box HA.out (fun h => h)))
          | (go_at_call 67; with_reducible refine (D1 _).mono ?_; rintro e w6 ⟨rfl, hk6⟩; have q0 := (hk6.box HB.out (fun h => h)).cell 0; have q1 := (hk6.box HB.out (fun h => h)).cell 1; have q2 := (hk6.box HB.out (fun h => h)).cell 2)
          | fail)
        go_returns
        exact ⟨by rw [HF.out]; first | rfl | simp, (HK0.out.trans hk5 (fun _ _ h => h)).trans hk6 (fun _ _ h => h)⟩
    · by_cases hr0 : r = ⟨#[]⟩
      · subst hr0
        have hk0 : k = 0 := by omega
        subst hk0
        rw [show ((0 : Nat) : Int) = 0 from rfl] at M1
        have HF := Lib.hid (@show_yes ((0 : Nat) : Int) v ⟨#[]⟩ (⟨#[]⟩ ++ v) HM.out (by
          unfold showE evrE
          simp only [app_list3]
          simp))
        go_enter Tryz.func47, Tryz.ntmps47
        go_wp2_with (first
          | (go_at_call 57; with_reducible refine (M1 _).mono ?_; rintro e w5 ⟨rfl, hk5⟩; have q0 := (hk5.box HA.out (fun h => h)).cell 0; have q1 := (hk5.box HA.out (fun h => h)).cell 1; have q2 := (hk5.box HA.out (fun h => h)).cell 2; have HB := Lib.hid (hk5.box HA.out (fun h => h)))
          | (go_at_call 67; with_reducible refine (D1 _).mono ?_; rintro e w6 ⟨rfl, hk6⟩; have q0 := (hk6.box HB.out (fun h => h)).cell 0; have q1 := (hk6.box HB.out (fun h => h)).cell 1; have q2 := (hk6.box HB.out (fun h => h)).cell 2)
          | fail)
        go_returns
        exact ⟨by rw [HF.out]; first | rfl | simp, HK0.out.trans hk5 (fun _ _ h => h)⟩
      · obtain ⟨b1, b2⟩ := text_ne hr0
        have hr1 : ¬ r.data.toList = [] := fun e => hr0 (empty_text.1 e)
        have HRN := Lib.hid hr1
        have hk0 : k = 0 := by omega
        subst hk0
        rw [show ((0 : Nat) : Int) = 0 from rfl] at M1
        have HF := Lib.hid (@show_yes ((0 : Nat) : Int) v r (⟨#[]⟩ ++ v ++ ⟨#[45]⟩ ++ r) HM.out (by
          unfold showE evrE
          simp only [app_list3]
          simp [HRN.out]))
        clear hr1 hr0
        go_enter Tryz.func47, Tryz.ntmps47
        go_wp2_with (first
          | (go_at_call 57; with_reducible refine (M1 _).mono ?_; rintro e w5 ⟨rfl, hk5⟩; have q0 := (hk5.box HA.out (fun h => h)).cell 0; have q1 := (hk5.box HA.out (fun h => h)).cell 1; have q2 := (hk5.box HA.out (fun h => h)).cell 2; have HB := Lib.hid (hk5.box HA.out (fun h => h)))
          | (go_at_call 67; with_reducible refine (D1 _).mono ?_; rintro e w6 ⟨rfl, hk6⟩; have q0 := (hk6.box HB.out (fun h => h)).cell 0; have q1 := (hk6.box HB.out (fun h => h)).cell 1; have q2 := (hk6.box HB.out (fun h => h)).cell 2)
          | fail)
        go_returns
        exact ⟨by rw [HF.out]; first | rfl | simp, HK0.out.trans hk5 (fun _ _ h => h)⟩
  · have hm' : mayE (evrE n v r) true = false := by simpa using hm
    have HF := Lib.hid (show_no hm')
    rw [hm'] at M1
    clear hm hm'
    go_enter Tryz.func47, Tryz.ntmps47
    go_wp2_with (first
      | (go_at_call 57; with_reducible refine (M1 _).mono ?_; rintro e w5 ⟨rfl, hk5⟩)
      | fail)
    go_returns
    exact ⟨by rw [HF.out]; rfl, HK0.out.trans hk5 (fun _ _ h => h)⟩
end Go.Proofs.YtoebokgpdkklmaaGreatDoor

namespace Go.Proofs.YtoebokgpdkklmaaGreatDoor
open Go.RowKit Ver Evr Span Dep

set_option maxRecDepth 100000 in
set_option maxHeartbeats 2000000 in
theorem rwords_no (nm : ByteArray) (o : Nat) (n : Int) (v r : ByteArray) (w : World) (hM : (∀ W, Kept (fun _ => False) w W → Calls Tryz.prog 39 #[.agg #[.string nm, .int .u8 (o : Int), .int .i64 n, .string v, .string r]] W fun e w' => e = .returned (.bool false) ∧ Kept (fun _ => False) W w')) : Calls Tryz.prog 32 #[.agg #[.string nm, .int .u8 (o : Int), .int .i64 n, .string v, .string r]] w fun e w' => e = .returned (.tuple #[.slice none 0 0, .int .i64 4]) ∧ Kept (fun _ => False) w w' := by
  have HA := Lib.hid (Box.made w 25 #[.string nm, .int .u8 (o : Int), .int .i64 n, .string v, .string r])
  have HK := Lib.hid ((Kept.refl (fun _ => False) w).alloc (.cells #[.string nm, .int .u8 (o : Int), .int .i64 n, .string v, .string r] 25))
  go_enter Tryz.func32, Tryz.ntmps32
  go_wp2_with (first
    | (go_at_call 39; (with_reducible refine (hM _ HK.out).mono ?_); rintro e w5 ⟨rfl, hk5⟩; have HA := Lib.hid (hk5.box HA.out (fun h => h)); have HK := Lib.hid (Kept.trans HK.out hk5 (fun _ _ h => h)); have ax0 := HA.out.cell 0; have ax1 := HA.out.cell 1; have ax2 := HA.out.cell 2; have ax3 := HA.out.cell 3; have ax4 := HA.out.cell 4; clear hk5)
    | fail)
  go_returns
  exact ⟨rfl, HK.out⟩
set_option maxRecDepth 100000 in
set_option maxHeartbeats 2000000 in
theorem rwords_any (nm : ByteArray) (n : Int) (v r : ByteArray) (w : World) (hM : (∀ W, Kept (fun _ => False) w W → Calls Tryz.prog 39 #[.agg #[.string nm, .int .u8 0, .int .i64 n, .string v, .string r]] W fun e w' => e = .returned (.bool true) ∧ Kept (fun _ => False) W w')) : Calls Tryz.prog 32 #[.agg #[.string nm, .int .u8 0, .int .i64 n, .string v, .string r]] w fun e w' => (∃ g, e = .returned (.tuple #[.slice (some ⟨g, 0, none⟩) 1 1, .int .i64 0]) ∧ Box w' g 9 #[.string nm]) ∧ Kept (fun _ => False) w w' := by
  have HA := Lib.hid (Box.made w 25 #[.string nm, .int .u8 0, .int .i64 n, .string v, .string r])
  have HK := Lib.hid ((Kept.refl (fun _ => False) w).alloc (.cells #[.string nm, .int .u8 0, .int .i64 n, .string v, .string r] 25))
  go_enter Tryz.func32, Tryz.ntmps32
  go_wp2_with (first
    | (go_at_call 39; (with_reducible refine (hM _ HK.out).mono ?_); rintro e w5 ⟨rfl, hk5⟩; have HA := Lib.hid (hk5.box HA.out (fun h => h)); have HK := Lib.hid (Kept.trans HK.out hk5 (fun _ _ h => h)); have ax0 := HA.out.cell 0; have ax1 := HA.out.cell 1; have ax2 := HA.out.cell 2; have ax3 := HA.out.cell 3; have ax4 := HA.out.cell 4; clear hk5)
    | fail)
  go_returns
  exact ⟨⟨_, rfl, Box.made w5 9 _⟩, HK.out.alloc _⟩
set_option maxRecDepth 100000 in
set_option maxHeartbeats 2000000 in
theorem rwords_ver (nm : ByteArray) (o : Nat) (h0 : ((o : Int) == 0) = false) (n : Int) (v r t ot : ByteArray) (w : World) (hM : (∀ W, Kept (fun _ => False) w W → Calls Tryz.prog 39 #[.agg #[.string nm, .int .u8 (o : Int), .int .i64 n, .string v, .string r]] W fun e w' => e = .returned (.bool true) ∧ Kept (fun _ => False) W w')) (hSh : (∀ W, Kept (fun _ => False) w W → Calls Tryz.prog 47 #[.agg #[.int .i64 n, .string v, .string r]] W fun e w' => e = .returned (.tuple #[.string t, .int .i64 0]) ∧ Kept (fun _ => False) W w')) (hT : (∀ W, Kept (fun _ => False) w W → Calls Tryz.prog 48 #[.int .u8 (o : Int)] W fun e w' => e = .returned (.string ot) ∧ Kept (fun _ => False) W w')) : Calls Tryz.prog 32 #[.agg #[.string nm, .int .u8 (o : Int), .int .i64 n, .string v, .string r]] w fun e w' => (∃ g, e = .returned (.tuple #[.slice (some ⟨g, 0, none⟩) 3 3, .int .i64 0]) ∧ Box w' g 9 #[.string nm, .string ot, .string t]) ∧ Kept (fun _ => False) w w' := by
  have HA := Lib.hid (Box.made w 25 #[.string nm, .int .u8 (o : Int), .int .i64 n, .string v, .string r])
  have HK := Lib.hid ((Kept.refl (fun _ => False) w).alloc (.cells #[.string nm, .int .u8 (o : Int), .int .i64 n, .string v, .string r] 25))
  go_enter Tryz.func32, Tryz.ntmps32
  go_wp2_with (first
    | (go_at_call 39; (with_reducible refine (hM _ HK.out).mono ?_); rintro e w5 ⟨rfl, hk5⟩; have HA := Lib.hid (hk5.box HA.out (fun h => h)); have HK := Lib.hid (Kept.trans HK.out hk5 (fun _ _ h => h)); have ax0 := HA.out.cell 0; have ax1 := HA.out.cell 1; have ax2 := HA.out.cell 2; have ax3 := HA.out.cell 3; have ax4 := HA.out.cell 4; clear hk5)
    | (go_at_call 47; (with_reducible refine (hSh _ HK.out).mono ?_); rintro e w6 ⟨rfl, hk6⟩; have HA := Lib.hid (hk6.box HA.out (fun h => h)); have HK := Lib.hid (Kept.trans HK.out hk6 (fun _ _ h => h)); have ax0 := HA.out.cell 0; have ax1 := HA.out.cell 1; have ax2 := HA.out.cell 2; have ax3 := HA.out.cell 3; have ax4 := HA.out.cell 4; clear hk6)
    | fail)
  have HA := Lib.hid (show Box w6.drew w.heap.size 25 #[.string nm, .int .u8 (o : Int), .int .i64 n, .string v, .string r] from HA.out)
  have HK := Lib.hid HK.out.drew
  have ax0 := HA.out.cell 0
  have ax1 := HA.out.cell 1
  have ax2 := HA.out.cell 2
  have ax3 := HA.out.cell 3
  have ax4 := HA.out.cell 4
  go_region_with ((first
    | (go_at_call 48; (with_reducible refine (hT _ HK.out).mono ?_); rintro e w7 ⟨rfl, hk7⟩; have HA := Lib.hid (hk7.box HA.out (fun h => h)); have HK := Lib.hid (Kept.trans HK.out hk7 (fun _ _ h => h)); have ax0 := HA.out.cell 0; have ax1 := HA.out.cell 1; have ax2 := HA.out.cell 2; have ax3 := HA.out.cell 3; have ax4 := HA.out.cell 4; clear hk7)
    | fail))
  all_goals
    go_wp2_with fail
    go_returns
    exact ⟨⟨_, rfl, Box.made w7 9 _⟩, HK.out.alloc _⟩
theorem box_texts6 {w : World} {g : Nat} {ty : TypeId} (l : List ByteArray) (h : Box w g ty (l.map Value.string).toArray) : StrS w (.slice (some ⟨g, 0, none⟩) l.length l.length) l := by
  refine ⟨_, _, rfl, fun j u hj => ⟨_, rfl, ?_, h.lt⟩⟩
  have e : (⟨g, 0, none⟩ : Addr).add j = ⟨g, j, none⟩ := by
    unfold Addr.add
    cases j <;> simp
  rw [e, h.cell]
  simp [hj]
theorem nil_strs (w : World) : StrS w (.slice none 0 0) [] := ⟨none, 0, rfl, fun j u hj => by simp at hj⟩
end Go.Proofs.YtoebokgpdkklmaaGreatDoor

namespace Go.Proofs.YtoebokgpdkklmaaGreatDoor
open Go.RowKit Rich Span

theorem mayR8_of (w0 : World) : MayR8 w0 := by
  intro d w ho h1 h2 h3 _
  obtain ⟨n, o, ⟨ep, v, r⟩⟩ := d
  exact may6r_walk ⟨n.toArray⟩ o ho ep ⟨v.toArray⟩ ⟨r.toArray⟩ (by show v.toArray.size ≤ _; simp at h2 ⊢; omega) (by show r.toArray.size ≤ _; simp at h3 ⊢; omega) w
theorem wordsD8_of (w0 : World) : WordsD8 w0 := by
  intro d w hm ho hk
  have hs := name_sizes hm
  have hM0 := fun W (hk' : Kept (fun _ => False) w W) => mayR8_of w0 d W ho (by omega) (by omega) (by omega) (hk.trans hk' (fun _ _ h => h))
  rw [hm] at hM0
  obtain ⟨n, o, ⟨ep, v, r⟩⟩ := d
  by_cases h0 : o = 0
  · subst h0
    refine (rwords_any ⟨n.toArray⟩ ep ⟨v.toArray⟩ ⟨r.toArray⟩ w hM0).mono fun e w' ⟨⟨g, h1, h3⟩, h2⟩ => ⟨⟨_, h1, ?_⟩, h2⟩
    have e1 : bytesV (Dep.wordsD ⟨n, 0, ⟨ep, v, r⟩⟩) = [⟨n.toArray⟩] := by rw [wordsD_any rfl]; rfl
    rw [e1]
    exact box_texts6 [⟨n.toArray⟩] h3
  · have hme := (Rich.may_ops hm h0).2
    have hSh := fun W (_ : Kept (fun _ => False) w W) => show_walk ep ⟨v.toArray⟩ ⟨r.toArray⟩ W (by have := hs.2.1; show v.toArray.size ≤ _; simp at this ⊢; omega) (by have := hs.2.2; show r.toArray.size ≤ _; simp at this ⊢; omega)
    unfold evrV at hSh
    rw [@show_yes ep ⟨v.toArray⟩ ⟨r.toArray⟩ ⟨(Evr.showE ⟨ep, v, r⟩).toArray⟩ hme rfl] at hSh
    have hT := fun W (_ : Kept (fun _ => False) w W) => text4 o ho W
    refine (rwords_ver ⟨n.toArray⟩ o (by simp; exact h0) ep ⟨v.toArray⟩ ⟨r.toArray⟩ _ _ w hM0 hSh hT).mono fun e w' ⟨⟨g, h1, h3⟩, h2⟩ => ⟨⟨_, h1, ?_⟩, h2⟩
    have e1 : bytesV (Dep.wordsD ⟨n, o, ⟨ep, v, r⟩⟩) = [⟨n.toArray⟩, textO o, ⟨(Evr.showE ⟨ep, v, r⟩).toArray⟩] := by rw [wordsD_op h0]; rfl
    rw [e1]
    exact box_texts6 [⟨n.toArray⟩, textO o, ⟨(Evr.showE ⟨ep, v, r⟩).toArray⟩] h3
end Go.Proofs.YtoebokgpdkklmaaGreatDoor

namespace Go.Proofs.YtoebokgpdkklmaaGreatDoor
open Go.RowKit Rich Lex

/-- What the rows list: the library's table and errors, the words that are no names, the table of Kinds. -/
structure RichW (w : World) : Prop where
  lib : LibW w
  nots : NotW w
  rows : RowsW w
theorem OfP8.on {w0 w : World} (h : OfP8 w0) (hk : Kept (fun _ => False) w0 w) : OfP8 w := fun va xs W h1 h2 h3 => h va xs W (hk.trans h1 (fun _ _ h => h)) h2 h3
theorem parseK_of {w0 : World} (h : RichW w0) : ParseK8 w0 := by
  intro s W _ hw
  by_cases her : (answer s.data.toList).2.2 = 0
  · exact parse8_good s W (h.rows.kept hw) ((ofP8_of h.lib h.nots).on hw) her
  · have ha : ansR s.data.toList = (.mk 0 zD [], (answer s.data.toList).2.1, (answer s.data.toList).2.2) := by
      unfold ansR parseF
      rw [if_pos her]
    refine (parse8_bad s W _ _ rfl rfl her).mono fun e w' ⟨h1, h2⟩ => ⟨⟨.agg #[.int .u8 0, .string ⟨#[]⟩, .int .u8 0, .int .i64 0, .string ⟨#[]⟩, .string ⟨#[]⟩, .slice none 0 0], ?_, ?_⟩, h2⟩
    · rw [h1, ha]
    · rw [ha]; exact zero_rich _
theorem wholeK8_of {w0 : World} (h : RichW w0) : WholeK8 w0 := wholeK_of (mayP8_of h.nots) h.rows
theorem wordsK8_of {w0 : World} (h : RichW w0) : WordsK8 w0 := wordsK_of (wordsP8_of h.lib h.nots) h.rows (wholeK8_of h)
theorem showK8_of {w0 : World} (h : RichW w0) : ShowK8 w0 := showK_of8 (wordsK8_of h) (join_k w0)
end Go.Proofs.YtoebokgpdkklmaaGreatDoor

namespace Go.Proofs.YtoebokgpdkklmaaGreatDoor
open Go.ChangeShapes Go.WideShapes Go.ChangeAt Go.RowKit Rich

theorem rr_cells : flatC Tryz.prog 4 89 (Rows.laid_chandlery_rich_rows : DataW Unit) = some rowsL := by kernel_rfl
theorem rows_at (k r : Nat) (hk : k < 8) (hr : r < 3) : rowsL[k * 3 + r]? = some (match r with | 0 => .string (wordB k) | 1 => .string (furB k) | _ => .int .i64 (mostK k : Int)) := by
  have h1 : k = 0 ∨ k = 1 ∨ k = 2 ∨ k = 3 ∨ k = 4 ∨ k = 5 ∨ k = 6 ∨ k = 7 := by omega
  have h2 : r = 0 ∨ r = 1 ∨ r = 2 := by omega
  rcases h1 with rfl | rfl | rfl | rfl | rfl | rfl | rfl | rfl <;> rcases h2 with rfl | rfl | rfl <;> rfl
theorem rowsW_of {W : World} {L : List (String × DataW Unit)} (h : laidMetH Tryz.prog L W) (hp : (L.filter fun x => x.1 == "chandlery/rich.rows") = [("chandlery/rich.rows", Rows.laid_chandlery_rich_rows)]) (hq : laidMetH Tryz.prog L W = laidMet Tryz.prog L W) : RowsW W := by
  rw [hq] at h
  have h1 := h.filter (fun x => x.1 == "chandlery/rich.rows")
  rw [hp] at h1
  have hc := laid_cells 4 (show Tryz.prog.globalNamed "chandlery/rich.rows" = some 0 by kernel_rfl) (show (Tryz.prog.globals[0]?).map (·.type) = some 89 by kernel_rfl) rr_cells h1
  have h0 : ∀ k, k < 8 → ∀ r, r < 3 → W.cell? ⟨0, k * 3 + r, none⟩ = rowsL[k * 3 + r]? := fun k hk r hr => hc (k * 3 + r)
  exact ⟨World.block_lt_of_cell? W _ (hc 0), fun k hk => (h0 k hk 0 (by omega)).trans (rows_at k 0 hk (by omega)), fun k hk => (h0 k hk 1 (by omega)).trans (rows_at k 1 hk (by omega)), fun k hk => (h0 k hk 2 (by omega)).trans (rows_at k 2 hk (by omega))⟩
end Go.Proofs.YtoebokgpdkklmaaGreatDoor
