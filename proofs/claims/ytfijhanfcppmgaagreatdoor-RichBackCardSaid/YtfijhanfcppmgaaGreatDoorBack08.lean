/-
  The walk over the law RichBack, over what the program's rich answers. Conditions: as each theorem states.
-/
import Derived.Test.YtfijhanfcppmgaaGreatDoorK09
import Derived.Test.YtfijhanfcppmgaaGreatDoorK24
import Derived.Test.YtfijhanfcppmgaaGreatDoorK27
import Derived.Test.YtfijhanfcppmgaaGreatDoorK07
namespace Go.Proofs.YtfijhanfcppmgaaGreatDoor
open Go.RowKit Rich
open Lex (join)

theorem zero_reads (W : World) : RichS W (.mk 0 zD []) (.agg #[.int .u8 0, .string ⟨#[]⟩, .int .u8 0, .int .i64 0, .string ⟨#[]⟩, .string ⟨#[]⟩, .slice none 0 0]) := by
  rw [RichS]
  exact ⟨none, 0, rfl, by omega, by decide, by rw [ArgS]; trivial⟩
/-- What Show answers: three ways. -/
theorem show_ways (x : R) : (whole x = false ∧ showN x = ([], 4)) ∨ (whole x = true ∧ 4096 < (join (wordsR x)).length ∧ showN x = ([], 40)) ∨ (whole x = true ∧ ¬ 4096 < (join (wordsR x)).length ∧ showN x = (join (wordsR x), 0)) := by
  unfold showN
  cases h : whole x with
  | false => exact .inl ⟨rfl, by simp⟩
  | true =>
    by_cases h2 : 4096 < (join (wordsR x)).length
    · exact .inr (.inl ⟨rfl, h2, by simp [h2]⟩)
    · exact .inr (.inr ⟨rfl, h2, by simp [h2]⟩)
set_option maxRecDepth 100000 in
set_option maxHeartbeats 8000000 in
theorem richback_awake (w : World) (hAw : AwakeK8 w) (x : R) (v : Value) (hr : RichS w x v) (hf : fitsX x) (s : ByteArray) (h : (muchX x 0).2 = true ∨ ((muchX x 0).2 = false ∧ (10000 : Int) < (s.size : Int))) : Calls Tryz.prog 6 #[v, .string s] w fun e w' => e = .returned (.bool true) ∧ Kept (fun _ => False) w w' := by
  have AC := fun W (hk : Kept (fun _ => False) w W) => hAw W hk
  have L1 := fun W (hk : Kept (fun _ => False) w W) => large8_walk x v W (RichS.kept hk x v hr) hf
  clear hAw
  generalize muchX x 0 = mx at *
  obtain ⟨m, is⟩ := mx
  simp only at h L1
  obtain ⟨k, d, l⟩ := x
  rw [RichS] at hr
  obtain ⟨ao, cp, rfl, _⟩ := hr
  have HA := Lib.hid (Box.made w 28 (richA k d (.slice ao l.length cp)))
  have HK := Lib.hid ((Kept.refl (fun _ => False) w).alloc (.cells (richA k d (.slice ao l.length cp)) 28))
  rcases h with rfl | ⟨rfl, h⟩
  all_goals
    go_enter Tryz.func6, Tryz.ntmps6
    go_wp2_with (first
      | (go_at_call 10; (with_reducible refine (L1 _ HK.out).mono ?_); rintro e w3 ⟨rfl, hk3⟩; have HK := Lib.hid (Kept.trans HK.out hk3 (fun _ _ h => h)); have HA := Lib.hid (hk3.box HA.out (fun h => h)); have a0 := HA.out.cell 0; have a1 := HA.out.cell 1; have a2 := HA.out.cell 2; have a3 := HA.out.cell 3; have a4 := HA.out.cell 4; have a5 := HA.out.cell 5; have a6 := HA.out.cell 6; clear hk3)
      | (go_at_call 11; (with_reducible refine (AC _ HK.out).mono ?_); rintro e w4 ⟨rfl, hk4⟩; have HK := Lib.hid (Kept.trans HK.out hk4 (fun _ _ h => h)); have HA := Lib.hid (hk4.box HA.out (fun h => h)); have a0 := HA.out.cell 0; have a1 := HA.out.cell 1; have a2 := HA.out.cell 2; have a3 := HA.out.cell 3; have a4 := HA.out.cell 4; have a5 := HA.out.cell 5; have a6 := HA.out.cell 6; clear hk4)
      | fail)
    go_ret
    exact ⟨rfl, HK.out⟩
set_option maxRecDepth 100000 in
set_option maxHeartbeats 8000000 in
theorem richback_err (w : World) (hAw : AwakeK8 w) (hSh : ShowK8 w) (hWh : WholeK8 w) (hP : ParseK8 w) (x : R) (v : Value) (hr : RichS w x v) (hf : fitsX x) (s : ByteArray) (he : ∃ q, parseF s.data.toList = .error q) (n1 : ¬ (10000 : Int) < (s.size : Int)) (hm : (muchX x 0).2 = false) : Calls Tryz.prog 6 #[v, .string s] w fun e w' => e = .returned (.bool true) ∧ Kept (fun _ => False) w w' := by
  obtain ⟨i0, hi, hz0, hz1, hz2⟩ := info_parts info_str
  have AC := fun W (hk : Kept (fun _ => False) w W) => hAw W hk
  have L1 := fun W (hk : Kept (fun _ => False) w W) => large8_walk x v W (RichS.kept hk x v hr) hf
  rw [hm] at L1
  obtain ⟨sx, cx⟩ := large_no hm
  have T1 := fun W (hk : Kept (fun _ => False) w W) => hSh x v W (RichS.kept hk x v hr) sx cx hk
  have WC := fun W (hk : Kept (fun _ => False) w W) => hWh x v W (RichS.kept hk x v hr) sx cx hk
  have PS := fun W (hk : Kept (fun _ => False) w W) => hP s W (by omega) hk
  have hsm := (sameX_iff x x).2 rfl
  have SC := fun (v v' : Value) W (hr : RichS W x v) (hr' : RichS W x v') => same8_walk x x v v' W hr hr' hf
  rw [hsm] at SC
  have hway := show_ways x
  have hPT : ∀ t : List UInt8, showN x = (t, 0) → ∀ W, Kept (fun _ => False) w W → Calls Tryz.prog 21 #[.string ⟨t.toArray⟩] W fun e w' => (∃ v, e = .returned (.tuple #[v, .int .i64 0, .int .i64 0]) ∧ RichS w' x v) ∧ Kept (fun _ => False) W w' := fun t ht W hk => by
    obtain ⟨_, _, hl⟩ := show_zero ht
    have h := hP ⟨t.toArray⟩ W (by simp [ByteArray.size]; omega) hk
    rw [show (⟨t.toArray⟩ : ByteArray).data.toList = t from rfl, ans_ok (parse_show8 ht)] at h
    exact h
  have HR := Lib.hid hr
  have HN1 := Lib.hid n1
  have hz : fitsX (.mk 0 zD []) := by rw [fitsX, fitsL]; exact ⟨by simp [zD], by simp [zD, Dep.zeroD], by simp [zD, Dep.zeroD], by simp, trivial⟩
  have hzz := (sameX_iff (.mk 0 zD []) (.mk 0 zD [])).2 rfl
  have SZ := fun (v v' : Value) W (hr : RichS W (.mk 0 zD []) v) (hr' : RichS W (.mk 0 zD []) v') => same8_walk _ _ v v' W hr hr' hz
  rw [hzz] at SZ
  clear hSh hWh hAw hm sx cx hsm hz hzz
  obtain ⟨y, py, ey, hyy, rfl, heb⟩ : ∃ (y : R) (p : Nat) (e : Int), ansR s.data.toList = (y, p, e) ∧ y = .mk 0 zD [] ∧ (e != 0) = true := by
    obtain ⟨q, hx⟩ := he
    obtain ⟨_, h2⟩ := parse_err8 hx
    refine ⟨_, _, _, ans_err hx, rfl, ?_⟩
    simp
    omega
  rw [hyy] at PS
  simp only at PS
  clear hyy hP
  rcases hway with ⟨hw, hs⟩ | ⟨hw, _, hs⟩ | ⟨hw, _, hs⟩
  · rw [hs] at T1
    rw [hw] at WC
    clear hPT hs hw
    obtain ⟨k, d, l⟩ := x
    rw [RichS] at hr
    obtain ⟨ao, cp, rfl, _⟩ := hr
    have HA := Lib.hid (Box.made w 28 (richA k d (.slice ao l.length cp)))
    have HK := Lib.hid ((Kept.refl (fun _ => False) w).alloc (.cells (richA k d (.slice ao l.length cp)) 28))
    go_enter Tryz.func6, Tryz.ntmps6
    go_wp2_with (first
      | (go_at_call 10; (with_reducible refine (L1 _ HK.out).mono ?_); rintro e w3 ⟨rfl, hk3⟩; have HK := Lib.hid (Kept.trans HK.out hk3 (fun _ _ h => h)); have HA := Lib.hid (hk3.box HA.out (fun h => h)); have a0 := HA.out.cell 0; have a1 := HA.out.cell 1; have a2 := HA.out.cell 2; have a3 := HA.out.cell 3; have a4 := HA.out.cell 4; have a5 := HA.out.cell 5; have a6 := HA.out.cell 6; clear hk3)
      | (go_at_call 11; (with_reducible refine (AC _ HK.out).mono ?_); rintro e w4 ⟨rfl, hk4⟩; have HK := Lib.hid (Kept.trans HK.out hk4 (fun _ _ h => h)); have HA := Lib.hid (hk4.box HA.out (fun h => h)); have a0 := HA.out.cell 0; have a1 := HA.out.cell 1; have a2 := HA.out.cell 2; have a3 := HA.out.cell 3; have a4 := HA.out.cell 4; have a5 := HA.out.cell 5; have a6 := HA.out.cell 6; clear hk4)
      | (go_at_call 15; (with_reducible refine (T1 _ HK.out).mono ?_); rintro e w5 ⟨rfl, hk5⟩; have HK := Lib.hid (Kept.trans HK.out hk5 (fun _ _ h => h)); have HA := Lib.hid (hk5.box HA.out (fun h => h)); have a0 := HA.out.cell 0; have a1 := HA.out.cell 1; have a2 := HA.out.cell 2; have a3 := HA.out.cell 3; have a4 := HA.out.cell 4; have a5 := HA.out.cell 5; have a6 := HA.out.cell 6; clear hk5)
      | (go_at_call 18; (with_reducible refine (WC _ HK.out).mono ?_); rintro e w6 ⟨rfl, hk6⟩; have HK := Lib.hid (Kept.trans HK.out hk6 (fun _ _ h => h)); have HA := Lib.hid (hk6.box HA.out (fun h => h)); have a0 := HA.out.cell 0; have a1 := HA.out.cell 1; have a2 := HA.out.cell 2; have a3 := HA.out.cell 3; have a4 := HA.out.cell 4; have a5 := HA.out.cell 5; have a6 := HA.out.cell 6; clear hk6)
      | (go_at_call 21; (with_reducible refine (PS _ HK.out).mono ?_); rintro e w9 ⟨⟨v9, rfl, hv9⟩, hk9⟩; have HK := Lib.hid (Kept.trans HK.out hk9 (fun _ _ h => h)); have hv92 := hv9; rw [RichS] at hv92; obtain ⟨ao9, cp9, rfl, _⟩ := hv92; have HY := Lib.hid hv9; clear hv9 hk9)
      | (go_at_call 20; (refine (SZ _ _ _ (RichS.kept ((Kept.refl _ _).alloc _) _ _ HY.out) (zero_reads _)).mono ?_); rintro e w10 ⟨rfl, hk10⟩; have HK := Lib.hid ((HK.out.alloc _).trans hk10 (fun _ _ h => h)); clear hk10)
      | fail)
    go_ret
    exact ⟨rfl, HK.out⟩
  · rw [hs] at T1
    rw [hw] at WC
    clear hPT hs hw
    obtain ⟨k, d, l⟩ := x
    rw [RichS] at hr
    obtain ⟨ao, cp, rfl, _⟩ := hr
    have HA := Lib.hid (Box.made w 28 (richA k d (.slice ao l.length cp)))
    have HK := Lib.hid ((Kept.refl (fun _ => False) w).alloc (.cells (richA k d (.slice ao l.length cp)) 28))
    go_enter Tryz.func6, Tryz.ntmps6
    go_wp2_with (first
      | (go_at_call 10; (with_reducible refine (L1 _ HK.out).mono ?_); rintro e w3 ⟨rfl, hk3⟩; have HK := Lib.hid (Kept.trans HK.out hk3 (fun _ _ h => h)); have HA := Lib.hid (hk3.box HA.out (fun h => h)); have a0 := HA.out.cell 0; have a1 := HA.out.cell 1; have a2 := HA.out.cell 2; have a3 := HA.out.cell 3; have a4 := HA.out.cell 4; have a5 := HA.out.cell 5; have a6 := HA.out.cell 6; clear hk3)
      | (go_at_call 11; (with_reducible refine (AC _ HK.out).mono ?_); rintro e w4 ⟨rfl, hk4⟩; have HK := Lib.hid (Kept.trans HK.out hk4 (fun _ _ h => h)); have HA := Lib.hid (hk4.box HA.out (fun h => h)); have a0 := HA.out.cell 0; have a1 := HA.out.cell 1; have a2 := HA.out.cell 2; have a3 := HA.out.cell 3; have a4 := HA.out.cell 4; have a5 := HA.out.cell 5; have a6 := HA.out.cell 6; clear hk4)
      | (go_at_call 15; (with_reducible refine (T1 _ HK.out).mono ?_); rintro e w5 ⟨rfl, hk5⟩; have HK := Lib.hid (Kept.trans HK.out hk5 (fun _ _ h => h)); have HA := Lib.hid (hk5.box HA.out (fun h => h)); have a0 := HA.out.cell 0; have a1 := HA.out.cell 1; have a2 := HA.out.cell 2; have a3 := HA.out.cell 3; have a4 := HA.out.cell 4; have a5 := HA.out.cell 5; have a6 := HA.out.cell 6; clear hk5)
      | (go_at_call 18; (with_reducible refine (WC _ HK.out).mono ?_); rintro e w6 ⟨rfl, hk6⟩; have HK := Lib.hid (Kept.trans HK.out hk6 (fun _ _ h => h)); have HA := Lib.hid (hk6.box HA.out (fun h => h)); have a0 := HA.out.cell 0; have a1 := HA.out.cell 1; have a2 := HA.out.cell 2; have a3 := HA.out.cell 3; have a4 := HA.out.cell 4; have a5 := HA.out.cell 5; have a6 := HA.out.cell 6; clear hk6)
      | (go_at_call 21; (with_reducible refine (PS _ HK.out).mono ?_); rintro e w9 ⟨⟨v9, rfl, hv9⟩, hk9⟩; have HK := Lib.hid (Kept.trans HK.out hk9 (fun _ _ h => h)); have hv92 := hv9; rw [RichS] at hv92; obtain ⟨ao9, cp9, rfl, _⟩ := hv92; have HY := Lib.hid hv9; clear hv9 hk9)
      | (go_at_call 20; (refine (SZ _ _ _ (RichS.kept ((Kept.refl _ _).alloc _) _ _ HY.out) (zero_reads _)).mono ?_); rintro e w10 ⟨rfl, hk10⟩; have HK := Lib.hid ((HK.out.alloc _).trans hk10 (fun _ _ h => h)); clear hk10)
      | fail)
    go_ret
    exact ⟨rfl, HK.out⟩
  · have PT := hPT _ hs
    rw [hs] at T1
    rw [hw] at WC
    generalize join (wordsR x) = tx at *
    clear hPT hs hw
    obtain ⟨k, d, l⟩ := x
    rw [RichS] at hr
    obtain ⟨ao, cp, rfl, _⟩ := hr
    have HA := Lib.hid (Box.made w 28 (richA k d (.slice ao l.length cp)))
    have HK := Lib.hid ((Kept.refl (fun _ => False) w).alloc (.cells (richA k d (.slice ao l.length cp)) 28))
    go_enter Tryz.func6, Tryz.ntmps6
    go_wp2_with (first
      | (go_at_call 10; (with_reducible refine (L1 _ HK.out).mono ?_); rintro e w3 ⟨rfl, hk3⟩; have HK := Lib.hid (Kept.trans HK.out hk3 (fun _ _ h => h)); have HA := Lib.hid (hk3.box HA.out (fun h => h)); have a0 := HA.out.cell 0; have a1 := HA.out.cell 1; have a2 := HA.out.cell 2; have a3 := HA.out.cell 3; have a4 := HA.out.cell 4; have a5 := HA.out.cell 5; have a6 := HA.out.cell 6; clear hk3)
      | (go_at_call 11; (with_reducible refine (AC _ HK.out).mono ?_); rintro e w4 ⟨rfl, hk4⟩; have HK := Lib.hid (Kept.trans HK.out hk4 (fun _ _ h => h)); have HA := Lib.hid (hk4.box HA.out (fun h => h)); have a0 := HA.out.cell 0; have a1 := HA.out.cell 1; have a2 := HA.out.cell 2; have a3 := HA.out.cell 3; have a4 := HA.out.cell 4; have a5 := HA.out.cell 5; have a6 := HA.out.cell 6; clear hk4)
      | (go_at_call 15; (with_reducible refine (T1 _ HK.out).mono ?_); rintro e w5 ⟨rfl, hk5⟩; have HK := Lib.hid (Kept.trans HK.out hk5 (fun _ _ h => h)); have HA := Lib.hid (hk5.box HA.out (fun h => h)); have a0 := HA.out.cell 0; have a1 := HA.out.cell 1; have a2 := HA.out.cell 2; have a3 := HA.out.cell 3; have a4 := HA.out.cell 4; have a5 := HA.out.cell 5; have a6 := HA.out.cell 6; clear hk5)
      | (go_at_call 18; (with_reducible refine (WC _ HK.out).mono ?_); rintro e w6 ⟨rfl, hk6⟩; have HK := Lib.hid (Kept.trans HK.out hk6 (fun _ _ h => h)); have HA := Lib.hid (hk6.box HA.out (fun h => h)); have a0 := HA.out.cell 0; have a1 := HA.out.cell 1; have a2 := HA.out.cell 2; have a3 := HA.out.cell 3; have a4 := HA.out.cell 4; have a5 := HA.out.cell 5; have a6 := HA.out.cell 6; clear hk6)
      | (go_at_call 21; (with_reducible refine (PT _ HK.out).mono ?_); rintro e w7 ⟨⟨v7, rfl, hv7⟩, hk7⟩; have HK := Lib.hid (Kept.trans HK.out hk7 (fun _ _ h => h)); have HA := Lib.hid (hk7.box HA.out (fun h => h)); have a0 := fun ob => (HA.out.after_alloc ob).cell 0; have a1 := fun ob => (HA.out.after_alloc ob).cell 1; have a2 := fun ob => (HA.out.after_alloc ob).cell 2; have a3 := fun ob => (HA.out.after_alloc ob).cell 3; have a4 := fun ob => (HA.out.after_alloc ob).cell 4; have a5 := fun ob => (HA.out.after_alloc ob).cell 5; have a6 := fun ob => (HA.out.after_alloc ob).cell 6; have hv72 := hv7; rw [RichS] at hv72; obtain ⟨ao7, cp7, rfl, _⟩ := hv72; have HX := Lib.hid hv7; clear hv7 hk7)
      | (go_at_call 20; (with_reducible refine (SC _ _ _ (RichS.kept ((Kept.refl _ _).alloc _) _ _ HX.out) (RichS.kept (HK.out.alloc _) _ _ HR.out)).mono ?_); rintro e w8 ⟨rfl, hk8⟩; have HA := Lib.hid (hk8.box (HA.out.after_alloc _) (fun h => h)); have HK := Lib.hid ((HK.out.alloc _).trans hk8 (fun _ _ h => h)); have a0 := HA.out.cell 0; have a1 := HA.out.cell 1; have a2 := HA.out.cell 2; have a3 := HA.out.cell 3; have a4 := HA.out.cell 4; have a5 := HA.out.cell 5; have a6 := HA.out.cell 6; clear hk8)
      | (go_at_call 21; (with_reducible refine (PS _ HK.out).mono ?_); rintro e w9 ⟨⟨v9, rfl, hv9⟩, hk9⟩; have HK := Lib.hid (Kept.trans HK.out hk9 (fun _ _ h => h)); have hv92 := hv9; rw [RichS] at hv92; obtain ⟨ao9, cp9, rfl, _⟩ := hv92; have HY := Lib.hid hv9; clear hv9 hk9)
      | (go_at_call 20; (refine (SZ _ _ _ (RichS.kept ((Kept.refl _ _).alloc _) _ _ HY.out) (zero_reads _)).mono ?_); rintro e w10 ⟨rfl, hk10⟩; have HK := Lib.hid ((HK.out.alloc _).trans hk10 (fun _ _ h => h)); clear hk10)
      | fail)
    go_ret
    exact ⟨rfl, HK.out⟩
end Go.Proofs.YtfijhanfcppmgaaGreatDoor
