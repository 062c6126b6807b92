/-
  The walk over the law LexBack. Conditions: as each theorem states.
-/
import Derived.Test.YtdmpfonfghkffaaMathLex3
import Derived.Test.YtdmpfonfghkffaaTells07
import Derived.Test.YtdmpfonfghkffaaLex7c
import Derived.Test.YtdmpfonfghkffaaLex7d
namespace Go.Proofs.Ytdmpfonfghkffaa
open Go.RowKit Lex

theorem works7_k (w : World) : Calls Try.prog 9 #[] w fun e w' => e = .returned (.bool true) ∧ Kept (fun _ => False) w w' := works7_walk w (words_k w) (join_k w)
theorem words7_c (s : ByteArray) (hs : s.size ≤ 1000000) (ws : List Wd) (p : Nat) (er : Int) (h : answer s.data.toList = (ws, p, er)) (W : World) :
    Calls Try.prog 12 #[.string s] W fun e w' => (∃ v, e = .returned (.tuple #[v, .int .i64 (p : Int), .int .i64 er]) ∧ WdS w' v ws) ∧ Kept (fun _ => False) W w' := words_lit7 (words_k W) s hs ws p er h W (Kept.refl _ _)
set_option maxRecDepth 100000 in
set_option maxHeartbeats 2000000 in
theorem lexback_long (va : Value) (w : World)
    (hLg : ∀ W, Kept (fun _ => False) w W → Calls Try.prog 14 #[va] W fun e w' => e = .returned (.bool true) ∧ Kept (fun _ => False) W w') :
    Calls Try.prog 5 #[va] w fun e w' => e = .returned (.bool true) ∧ Kept (fun _ => False) w w' := by
  have HK := Lib.hid (Kept.refl (fun _ => False) w)
  go_enter Try.func5, Try.ntmps5
  go_wp2_with (first
    | (go_at_call 9; refine (works7_k _).mono ?_; rintro e w3 ⟨rfl, hk3⟩; have HK := Lib.hid (Kept.trans HK.out hk3 (fun _ _ h => h)); clear hk3)
    | (go_at_call 14; (with_reducible refine (hLg _ HK.out).mono ?_); rintro e w4 ⟨rfl, hk4⟩; have HK := Lib.hid (Kept.trans HK.out hk4 (fun _ _ h => h)); clear hk4)
    | fail)
  go_ret
  exact ⟨rfl, HK.out⟩
theorem bytes_at {xs : List ByteArray} {ws : List Wd} (h : ws.map Prod.fst = bytesL xs) {i : Nat} {x : ByteArray} (hx : xs[i]? = some x) : ∃ a, ws[i]? = some (x.data.toList, a) := by
  have h1 : (ws.map Prod.fst)[i]? = some x.data.toList := by rw [h]; simp [bytesL, hx]
  rw [List.getElem?_map] at h1
  obtain ⟨⟨t, a⟩, h2, h3⟩ := Option.map_eq_some_iff.1 h1
  exact ⟨a, by rw [h2]; simp at h3; rw [h3]⟩
set_option maxRecDepth 100000 in
set_option maxHeartbeats 2000000 in
theorem lexback_main (va : Value) (xs : List ByteArray) (w : World) (hn : weigh xs < 3000) (ha : StrS w va xs)
    (hLg : ∀ W, Kept (fun _ => False) w W → Calls Try.prog 14 #[va] W fun e w' => e = .returned (.bool false) ∧ Kept (fun _ => False) W w') :
    Calls Try.prog 5 #[va] w fun e w' => e = .returned (.bool true) ∧ Kept (fun _ => False) w w' := by
  have HK := Lib.hid (Kept.refl (fun _ => False) w)
  have HA := Lib.hid ha
  obtain ⟨a1, c1, rfl, h1⟩ := ha
  have H1 := Lib.hid h1
  have hwt := weigh_total xs
  have hjl := joinF_len (bytesL xs) none
  have hbl : (bytesL xs).length = xs.length := List.length_map _
  have HXL := Lib.hid (show xs.length ≤ 3000 by omega)
  have HJL := Lib.hid (show (join (bytesL xs)).length ≤ 6000 by unfold join; omega)
  have HSZ := Lib.hid (show ∀ (i : Nat) (x : ByteArray), xs[i]? = some x → x.size ≤ 3000 by
    intro i x hx
    have h2 := weigh_next hx
    have h3 := weigh_take xs (i + 1)
    omega)
  clear h1 hwt hjl hbl hn
  go_enter Try.func5, Try.ntmps5
  go_wp2_with (first
    | (go_at_call 9; refine (works7_k _).mono ?_; rintro e w3 ⟨rfl, hk3⟩; have HK := Lib.hid (Kept.trans HK.out hk3 (fun _ _ h => h)); clear hk3)
    | (go_at_call 14; (with_reducible refine (hLg _ HK.out).mono ?_); rintro e w4 ⟨rfl, hk4⟩; have HK := Lib.hid (Kept.trans HK.out hk4 (fun _ _ h => h)); clear hk4)
    | fail)
  go_loopw [3] (fun v3 wr => ∃ i : Nat, v3 = .int .i64 (i : Int) ∧ i ≤ xs.length ∧ Hid (∀ x ∈ bytesL (xs.take i), plain x = true) ∧ Hid (Kept (fun _ => False) w wr)) (fun v3 _ => xs.length - (intOf v3).toNat)
  case atStart => exact ⟨0, rfl, Nat.zero_le _, Lib.hid (by simp [bytesL]), HK⟩
  case round =>
    obtain ⟨i, rfl, hi, HP, HK⟩ := hrel
    rename World => wr
    have hxl := HXL.out
    by_cases hlt : i < xs.length
    · obtain ⟨x, hxu⟩ : ∃ u, xs[i]? = some u := ⟨_, List.getElem?_eq_getElem hlt⟩
      obtain ⟨p1, e1, k1, l1⟩ := H1.out i x hxu
      have k1w : wr.cell? (p1.add i) = some (.string x) := (HK.out.cell (p := p1.add i) (by rw [add_block]; exact l1) (fun h => h)).trans k1
      have hz := HSZ.out i x hxu
      have PL := fun W => plain7_walk x W (by omega)
      have hi0 : (0 : Int) ≤ (i : Int) := by omega
      have hiI : (i : Int) < (xs.length : Int) := by omega
      subst e1
      by_cases hpl : plain x.data.toList = true
      · have HN := Lib.hid (show ∀ x ∈ bytesL (xs.take (i + 1)), plain x = true by
          intro z hz
          rw [List.take_add_one, hxu] at hz
          rcases List.mem_append.1 (show z ∈ bytesL (xs.take i) ++ bytesL [x] by simpa [bytesL] using hz) with h | h
          · exact HP.out z h
          · simp [bytesL] at h; rw [h]; exact hpl)
        rw [hpl] at PL
        clear hpl k1 hxu hz
        go_wp2_with (first
          | (go_at_call 17; refine (PL _).mono ?_; rintro e w5 ⟨rfl, hww⟩; have hwx := Eq.symm hww; clear hww; subst hwx)
          | fail)
        go_roundw
        case rel => exact ⟨i + 1, by go_num, by omega, HN, HK⟩
        case measure => simp [intOf]; omega
      · rw [Bool.not_eq_true] at hpl
        rw [hpl] at PL
        clear hpl k1 hxu hz
        go_wp2_with (first
          | (go_at_call 17; refine (PL _).mono ?_; rintro e w5 ⟨rfl, hww⟩; have hwx := Eq.symm hww; clear hww; subst hwx)
          | fail)
        go_ret
        exact ⟨rfl, HK.out⟩
    · have hge : ¬ (i : Int) < (xs.length : Int) := by omega
      have hall : ∀ x ∈ bytesL xs, plain x = true := by
        have h := HP.out
        rw [List.take_of_length_le (by omega)] at h
        exact h
      obtain ⟨s, hs⟩ : ∃ s : ByteArray, s = ⟨(join (bytesL xs)).toArray⟩ := ⟨_, rfl⟩
      have hsl : s.data.toList = join (bytesL xs) := by rw [hs]
      have hss : s.size = (join (bytesL xs)).length := by rw [← hsl]; rfl
      have hsz : s.size ≤ 6000 := by rw [hss]; exact HJL.out
      have hbad := join_bad hall
      rw [← hsl] at hbad
      have JC := fun W (hk : Kept (fun _ => False) w W) => join_walk (.slice a1 xs.length c1) xs W (by have := HXL.out; omega) (by have := HJL.out; omega) (HA.out.kept hk (fun _ _ _ _ h => h))
      rw [← hs] at JC
      by_cases hbig : 4096 < s.size
      · have WC := fun W => words7_c s (by omega) [] 0 40 (answer_big hbig) W
        have hbI : (4096 : Int) < (s.size : Int) := by omega
        clear hs hsl hss hbad hall hbig
        go_wp2_with (first
          | (go_at_call 11; (with_reducible refine (JC _ HK.out).mono ?_); rintro e w5 ⟨rfl, hk5⟩; have HK := Lib.hid (Kept.trans HK.out hk5 (fun _ _ h => h)); clear hk5)
          | (go_at_call 12; refine (WC _).mono ?_; rintro e w6 ⟨⟨v, rfl, hv⟩, hk6⟩; have HK := Lib.hid (Kept.trans HK.out hk6 (fun _ _ h => h)); clear hk6 hv)
          | fail)
        go_ret
        exact ⟨rfl, HK.out⟩
      · obtain ⟨ws, hws⟩ : ∃ ws, ws = words s.data.toList := ⟨_, rfl⟩
        have WC := fun W => words7_c s (by omega) ws 0 0 (by rw [hws]; exact answer_ok (show s.size ≤ 4096 by omega) hbad) W
        have hmap : ws.map Prod.fst = bytesL xs := by rw [hws, hsl, words_join hall, placed_texts]
        have hwl : ws.length = xs.length := by
          have h := congrArg List.length hmap
          simpa [bytesL] using h
        have hcut : ∀ (i : Nat) (x : ByteArray), xs[i]? = some x → ∃ a, ws[i]? = some (x.data.toList, a) ∧ a + x.size ≤ s.size ∧ s.extract a (a + x.size) = x := by
          intro i x hx
          obtain ⟨a, h1⟩ := bytes_at hmap hx
          have h2 := words_cut hbad (by rw [← hws]; exact h1)
          exact ⟨a, h1, h2.1, h2.2⟩
        have HC := Lib.hid hcut
        have HWL := Lib.hid hwl
        clear hs hsl hss hbad hall hbig hws hmap hwl hcut
        clear hlt HP
        have hne : ((ws.length : Int) != (xs.length : Int)) = false := by have := HWL.out; simp; omega
        have HSS := Lib.hid hsz
        go_wp2_with (first
          | (go_at_call 11; (with_reducible refine (JC _ HK.out).mono ?_); rintro e w5 ⟨rfl, hk5⟩; have HK := Lib.hid (Kept.trans HK.out hk5 (fun _ _ h => h)); clear hk5)
          | (go_at_call 12; refine (WC _).mono ?_; rintro e w6 ⟨⟨v, rfl, hv⟩, hk6⟩; have HK := Lib.hid (Kept.trans HK.out hk6 (fun _ _ h => h)); have HV := Lib.hid hv; clear hk6 hv; obtain ⟨a2, c2, e2, _⟩ := HV.out; subst e2)
          | fail)
        go_loopw [8] (fun v8 wr => ∃ j : Nat, v8 = .int .i64 (j : Int) ∧ j ≤ xs.length ∧ Hid (Kept (fun _ => False) w6 wr)) (fun v8 _ => xs.length - (intOf v8).toNat)
        case atStart => exact ⟨0, rfl, Nat.zero_le _, Lib.hid (Kept.refl _ _)⟩
        case round =>
          obtain ⟨j, rfl, hj, HL⟩ := hrel
          rename World => w7
          by_cases hltj : j < xs.length
          · obtain ⟨x, hxu⟩ : ∃ u, xs[j]? = some u := ⟨_, List.getElem?_eq_getElem hltj⟩
            obtain ⟨a, hwj, hal, hx⟩ := HC.out j x hxu
            obtain ⟨p1, e1, k1, l1⟩ := H1.out j x hxu
            obtain ⟨ao2, cp2, f2, hh2⟩ := HV.out.kept HL.out
            obtain ⟨g2, e2, k2, k3, _⟩ := hh2 j _ hwj
            injection f2 with f2 _ f3
            subst f2
            subst f3
            subst e1
            subst e2
            have HKK := Lib.hid (Kept.trans HK.out HL.out (fun _ _ h => h))
            have d0 : w7.cell? (p1.add j) = some (.string x) := (HKK.out.cell (p := p1.add j) (by rw [add_block]; exact l1) (fun h => h)).trans k1
            have d2 : w7.cell? ⟨g2, j * 2, none⟩ = some (.string x) := k2
            have d3 : w7.cell? ⟨g2, j * 2 + 1, none⟩ = some (.int .i64 (a : Int)) := k3
            have hj0 : (0 : Int) ≤ (j : Int) := by omega
            have hjI : (j : Int) < (xs.length : Int) := by omega
            have hjJ : (j : Int) < (ws.length : Int) := by have := HWL.out; omega
            have ha0 : (0 : Int) ≤ (a : Int) := by omega
            have ha1 : ¬ (s.size : Int) < (a : Int) + (x.size : Int) := by omega
            have hw1 : IntKind.i64.wrap ((a : Int) + (x.size : Int)) = (a : Int) + (x.size : Int) := IntWalk.i64_in _ ⟨by omega, by have := HSS.out; omega⟩
            have hcut : ∀ wx : World, (Instr.slice 9 (.string s) (some (.int .i64 (a : Int))) (some (.int .i64 ((a : Int) + (x.size : Int)))) none).run Try.prog wx = .ok (.string x) wx := by
              intro wx
              rw [run_slice_string (P := Try.prog) (w := wx) 9 s .i64 .i64 (a : Int) ((a : Int) + (x.size : Int)) Try.underlying9 (by omega) (by omega) (by omega)]
              rw [show ((a : Int) + (x.size : Int)).toNat = a + x.size by omega, Int.toNat_natCast, hx]
            clear hh2 hwj hxu k1 k2 k3
            go_wp2_with fail
            go_quiet (fail)
            go_wp2_with fail
            go_roundw
            case rel => first | exact ⟨j + 1, by go_num, by omega, Lib.hid (HL.out.drewN _)⟩ | ((repeat apply Exists.intro); refine ⟨?_, rfl⟩; exact ⟨j + 1, by go_num, by omega, Lib.hid (HL.out.drewN _)⟩)
            case measure => simp [intOf]; omega
          · have hgj : ¬ (j : Int) < (xs.length : Int) := by omega
            go_wp2_with fail
            go_ret
            exact ⟨rfl, HK.out.trans HL.out (fun _ _ h => h)⟩
theorem lexback_walk (w : World) (va : Value) (xs : List ByteArray) (hx : xs.length < 140737488355328) (hsz : ∀ (i : Nat) u, xs[i]? = some u → u.size < 140737488355328) (ha : StrS w va xs) :
    Calls Try.prog 5 #[va] w fun e w' => e = .returned (.bool true) ∧ Kept (fun _ => False) w w' := by
  have hLg := fun W (hk : Kept (fun _ => False) w W) => same_kept7 (long7_walk va xs W hx hsz (ha.kept hk (fun _ _ _ _ h => h)))
  by_cases h2 : 3000 ≤ weigh xs
  · rw [decide_eq_true h2] at hLg
    exact lexback_long va w hLg
  · rw [decide_eq_false h2] at hLg
    exact lexback_main va xs w (by omega) ha hLg
end Go.Proofs.Ytdmpfonfghkffaa
