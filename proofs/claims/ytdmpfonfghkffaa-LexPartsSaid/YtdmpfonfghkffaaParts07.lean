/-
  The walk over the law LexParts. Conditions: as each theorem states.
-/
import Derived.Test.YtdmpfonfghkffaaWordsC7
import Derived.Test.YtdmpfonfghkffaaMathLex3
namespace Go.Proofs.Ytdmpfonfghkffaa
open Go.RowKit Lex

theorem both_list (s t : ByteArray) : (s ++ ⟨#[32]⟩ ++ t : ByteArray).data.toList = s.data.toList ++ 32 :: t.data.toList := by
  rw [app_list7, app_list7]
  simp
theorem both_size (s t : ByteArray) : (s ++ ⟨#[32]⟩ ++ t : ByteArray).size = s.size + 1 + t.size := by
  rw [ByteArray.size_append, ByteArray.size_append]
  rfl
theorem both_bad1 {s t : ByteArray} {i : Nat} (h : bad s.data.toList = some i) : bad (s ++ ⟨#[32]⟩ ++ t : ByteArray).data.toList = some i := by
  rw [both_list, bad_append, h]
theorem both_bad2 {s t : ByteArray} {i : Nat} (h0 : bad s.data.toList = none) (h : bad t.data.toList = some i) : bad (s ++ ⟨#[32]⟩ ++ t : ByteArray).data.toList = some (i + s.size + 1) := by
  rw [both_list, bad_append, h0]
  show Option.map (· + s.data.toList.length) (if kind 32 = 3 then some 0 else (bad t.data.toList).map (· + 1)) = _
  rw [if_neg (by decide), h]
  show some (i + 1 + s.data.toList.length) = _
  have e : s.data.toList.length = s.size := rfl
  rw [e]
  congr 1
  omega
theorem both_good {s t : ByteArray} (h0 : bad s.data.toList = none) (h : bad t.data.toList = none) : bad (s ++ ⟨#[32]⟩ ++ t : ByteArray).data.toList = none ∧ words (s ++ ⟨#[32]⟩ ++ t : ByteArray).data.toList = words s.data.toList ++ (words t.data.toList).map (shift (s.size + 1)) := by
  refine ⟨?_, ?_⟩
  · rw [both_list, bad_append, h0]
    show Option.map (· + s.data.toList.length) (if kind 32 = 3 then some 0 else (bad t.data.toList).map (· + 1)) = _
    rw [if_neg (by decide), h]
    rfl
  · rw [both_list, words_two]
    rfl
theorem answer_is {s : ByteArray} (hs : s.size ≤ 4096) {i : Nat} (hb : bad s.data.toList = some i) : answer s.data.toList = ([], i, 4) := by
  unfold answer
  rw [if_neg (show ¬ 4096 < s.data.toList.length from by have e : s.data.toList.length = s.size := rfl; omega), hb]
theorem answer_good {s : ByteArray} (hs : s.size ≤ 4096) (hb : bad s.data.toList = none) : answer s.data.toList = (words s.data.toList, 0, 0) := answer_ok (show s.data.toList.length ≤ 4096 from hs) hb
set_option maxRecDepth 100000 in
set_option maxHeartbeats 2000000 in
theorem lexparts_big (s t : ByteArray) (w : World) (h : (2000 : Int) < (s.size : Int) ∨ ((s.size : Int) ≤ 2000 ∧ (2000 : Int) < (t.size : Int))) :
    Calls Try.prog 8 #[.string s, .string t] w fun e w' => e = .returned (.bool true) ∧ Kept (fun _ => False) w w' := by
  have HK := Lib.hid (Kept.refl (fun _ => False) w)
  rcases h with h | ⟨h, h2⟩
  all_goals
    go_enter Try.func8, Try.ntmps8
    go_wp2_with (first
      | (go_at_call 9; refine (works7_c _).mono ?_; rintro e w3 ⟨rfl, hk3⟩; have HK := Lib.hid (Kept.trans HK.out hk3 (fun _ _ h => h)); clear hk3)
      | fail)
    go_ret
    exact ⟨rfl, HK.out⟩
set_option maxRecDepth 100000 in
set_option maxHeartbeats 4000000 in
theorem lexparts_bad (s t : ByteArray) (w : World) (h1 : s.size ≤ 2000) (h2 : t.size ≤ 2000) (i : Nat) (hb : bad s.data.toList = some i ∨ (bad s.data.toList = none ∧ bad t.data.toList = some i)) :
    Calls Try.prog 8 #[.string s, .string t] w fun e w' => e = .returned (.bool true) ∧ Kept (fun _ => False) w w' := by
  have HK := Lib.hid (Kept.refl (fun _ => False) w)
  have hus := both_size s t
  have n1 : ¬ (2000 : Int) < (s.size : Int) := by omega
  have n2 : ¬ (2000 : Int) < (t.size : Int) := by omega
  rcases hb with hb | ⟨h0, hb⟩
  · have WS := fun W => words7_w s (by omega) [] i 4 (answer_is (by omega) hb) W
    obtain ⟨⟨ws2, p2, er2⟩, h3⟩ : ∃ a, answer t.data.toList = a := ⟨_, rfl⟩
    have WT := fun W => words7_w t (by omega) ws2 p2 er2 h3 W
    have WU := fun W => words7_w (s ++ ⟨#[32]⟩ ++ t) (by omega) [] i 4 (answer_is (by omega) (both_bad1 hb)) W
    clear hb h3 hus
    go_enter Try.func8, Try.ntmps8
    go_wp2_with (first
      | (go_at_call 9; refine (works7_c _).mono ?_; rintro e w3 ⟨rfl, hk3⟩; have HK := Lib.hid (Kept.trans HK.out hk3 (fun _ _ h => h)); clear hk3)
      | (go_at_call 12; (first | (with_reducible refine (WS _).mono ?_) | (with_reducible refine (WT _).mono ?_) | (with_reducible refine (WU _).mono ?_)); rintro e w6 ⟨⟨v, rfl, _⟩, hk6⟩; have HK := Lib.hid (Kept.trans HK.out hk6 (fun _ _ h => h)); clear hk6)
      | fail)
    go_ret
    exact ⟨rfl, HK.out⟩
  · have WS := fun W => words7_w s (by omega) (words s.data.toList) 0 0 (answer_good (by omega) h0) W
    have WT := fun W => words7_w t (by omega) [] i 4 (answer_is (by omega) hb) W
    have WU := fun W => words7_w (s ++ ⟨#[32]⟩ ++ t) (by omega) [] (i + s.size + 1) 4 (answer_is (by omega) (both_bad2 h0 hb)) W
    have hil : i < t.size := bad_lt hb
    have hcast : ((i + s.size + 1 : Nat) : Int) = (i : Int) + (s.size : Int) + 1 := by omega
    rw [hcast] at WU
    clear hb hus hcast h0
    go_enter Try.func8, Try.ntmps8
    go_wp2_with (first
      | (go_at_call 9; refine (works7_c _).mono ?_; rintro e w3 ⟨rfl, hk3⟩; have HK := Lib.hid (Kept.trans HK.out hk3 (fun _ _ h => h)); clear hk3)
      | (go_at_call 12; (first | (with_reducible refine (WS _).mono ?_) | (with_reducible refine (WT _).mono ?_) | (with_reducible refine (WU _).mono ?_)); rintro e w6 ⟨⟨v, rfl, _⟩, hk6⟩; have HK := Lib.hid (Kept.trans HK.out hk6 (fun _ _ h => h)); clear hk6)
      | fail)
    go_ret
    exact ⟨rfl, HK.out⟩
set_option maxRecDepth 100000 in
set_option maxHeartbeats 4000000 in
theorem lexparts_good (s t : ByteArray) (w : World) (h1 : s.size ≤ 2000) (h2 : t.size ≤ 2000) (hb1 : bad s.data.toList = none) (hb2 : bad t.data.toList = none) :
    Calls Try.prog 8 #[.string s, .string t] w fun e w' => e = .returned (.bool true) ∧ Kept (fun _ => False) w w' := by
  have HK := Lib.hid (Kept.refl (fun _ => False) w)
  have hus := both_size s t
  have n1 : ¬ (2000 : Int) < (s.size : Int) := by omega
  have n2 : ¬ (2000 : Int) < (t.size : Int) := by omega
  obtain ⟨hb3, hw3⟩ := both_good hb1 hb2
  have a1 := answer_good (s := s) (by omega) hb1
  have a2 := answer_good (s := t) (by omega) hb2
  have a3 := answer_good (s := s ++ ⟨#[32]⟩ ++ t) (by omega) hb3
  rw [hw3] at a3
  obtain ⟨us, ha⟩ : ∃ us, us = words s.data.toList := ⟨_, rfl⟩
  obtain ⟨bs, hbs⟩ : ∃ bs, bs = words t.data.toList := ⟨_, rfl⟩
  have la : us.length ≤ 2000 := by
    obtain ⟨_, i2, i3⟩ := lies_facts _ _ _ _ (lies_words hb1)
    have e : s.data.toList.length = s.size := rfl
    rw [ha]; omega
  have lb : bs.length ≤ 2000 := by
    obtain ⟨_, i2, i3⟩ := lies_facts _ _ _ _ (lies_words hb2)
    have e : t.data.toList.length = t.size := rfl
    rw [hbs]; omega
  rw [← ha, ← hbs] at a3
  rw [← ha] at a1
  rw [← hbs] at a2
  have WS := fun W => words7_w s (by omega) us 0 0 a1 W
  have WT := fun W => words7_w t (by omega) bs 0 0 a2 W
  obtain ⟨cs, hcs⟩ : ∃ cs, cs = us ++ bs.map (shift (s.size + 1)) := ⟨_, rfl⟩
  have WU := fun W => words7_w (s ++ ⟨#[32]⟩ ++ t) (by omega) cs 0 0 (by rw [hcs]; exact a3) W
  have lc : cs.length = us.length + bs.length := by rw [hcs]; simp
  have HCA := Lib.hid (show ∀ (i : Nat) p, i < us.length → us[i]? = some p → cs[i]? = some p from fun i p hi h => by rw [hcs, List.getElem?_append_left hi]; exact h)
  have HCB := Lib.hid (show ∀ (i : Nat) p, us.length ≤ i → bs[i - us.length]? = some p → cs[i]? = some (p.1, p.2 + (s.size + 1)) from fun i p hi h => by
    rw [hcs, List.getElem?_append_right hi, List.getElem?_map, h]
    rfl)
  have HPB := Lib.hid (show ∀ (i : Nat) p, bs[i]? = some p → p.2 ≤ 2000 from fun i p hi => by
    have h := words_cut hb2 (i := i) (t := p.1) (a := p.2) (by rw [← hbs]; exact hi)
    omega)
  have HLC := Lib.hid lc
  have hne : ((cs.length : Int) != (us.length : Int) + (bs.length : Int)) = false := by simp; omega
  have hlw : IntKind.i64.wrap ((us.length : Int) + (bs.length : Int)) = (us.length : Int) + (bs.length : Int) := IntWalk.i64_in _ ⟨by omega, by omega⟩
  clear a1 a2 a3 ha hbs hcs hb1 hb2 hb3 hw3 hus lc
  go_enter Try.func8, Try.ntmps8
  go_wp2_with (first
    | (go_at_call 9; refine (works7_c _).mono ?_; rintro e w3 ⟨rfl, hk3⟩; have HK := Lib.hid (Kept.trans HK.out hk3 (fun _ _ h => h)); clear hk3)
    | (go_at_call 12; (with_reducible refine (WS _).mono ?_); rintro e w4 ⟨⟨v, rfl, hv⟩, hk4⟩; have HK := Lib.hid (Kept.trans HK.out hk4 (fun _ _ h => h)); have HVA := Lib.hid hv; clear hk4 hv; obtain ⟨a1, c1, e1, _⟩ := HVA.out; subst e1)
    | (go_at_call 12; (with_reducible refine (WT _).mono ?_); rintro e w5 ⟨⟨v, rfl, hv⟩, hk5⟩; have HK := Lib.hid (Kept.trans HK.out hk5 (fun _ _ h => h)); have HVA := Lib.hid (HVA.out.kept hk5); have HVB := Lib.hid hv; clear hk5 hv; obtain ⟨a2, c2, e2, _⟩ := HVB.out; subst e2)
    | (go_at_call 12; (with_reducible refine (WU _).mono ?_); rintro e w6 ⟨⟨v, rfl, hv⟩, hk6⟩; have HK := Lib.hid (Kept.trans HK.out hk6 (fun _ _ h => h)); have HVA := Lib.hid (HVA.out.kept hk6); have HVB := Lib.hid (HVB.out.kept hk6); have HVC := Lib.hid hv; clear hk6 hv; obtain ⟨a3, c3, e3, _⟩ := HVC.out; subst e3)
    | fail)
  clear WS WT WU
  go_loopw [14] (fun v14 wr => ∃ i : Nat, v14 = .int .i64 (i : Int) ∧ i ≤ cs.length ∧ Hid (Kept (fun _ => False) w6 wr)) (fun v14 _ => cs.length - (intOf v14).toNat)
  case atStart => exact ⟨0, rfl, Nat.zero_le _, Lib.hid (Kept.refl _ _)⟩
  case round =>
    obtain ⟨i, rfl, hi, HL⟩ := hrel
    rename World => w7
    have hclen := HLC.out
    have hcl : cs.length ≤ 4000 := by omega
    by_cases hlt : i < cs.length
    · have hi0 : (0 : Int) ≤ (i : Int) := by omega
      have hiI : (i : Int) < (cs.length : Int) := by omega
      obtain ⟨ao3, cp3, f3, hh3⟩ := HVC.out.kept HL.out
      injection f3 with f3 _ f3'
      subst f3
      subst f3'
      by_cases hia : i < us.length
      · obtain ⟨q, hq⟩ : ∃ q, us[i]? = some q := ⟨_, List.getElem?_eq_getElem hia⟩
        have hqc := HCA.out i q hia hq
        obtain ⟨ao1, cp1, f1, hh1⟩ := HVA.out.kept HL.out
        injection f1 with f1 _ f1'
        subst f1
        subst f1'
        obtain ⟨g1, e1, k0, k1, _⟩ := hh1 i q hq
        obtain ⟨g3, e3, k2, k3, _⟩ := hh3 i q hqc
        subst e1
        subst e3
        generalize (⟨q.1.toArray⟩ : ByteArray) = u at *
        generalize (q.2 : Int) = z at *
        have hiA : (i : Int) < (us.length : Int) := by omega
        have hgeN : (us.length ≤ i) = False := eq_false (by omega)
        clear hh1 hh3 hq hqc hclen
        go_wp2_with (go_quiet (fail))
        go_roundw
        case rel => first | exact ⟨i + 1, by go_num, by omega, Lib.hid (HL.out.drewN _)⟩ | ((repeat apply Exists.intro); refine ⟨?_, rfl⟩; exact ⟨i + 1, by go_num, by omega, Lib.hid (HL.out.drewN _)⟩)
        case measure => simp [intOf]; omega
      · obtain ⟨q, hq⟩ : ∃ q, bs[i - us.length]? = some q := ⟨_, List.getElem?_eq_getElem (by omega)⟩
        have hqc := HCB.out i q (by omega) hq
        have hqp := HPB.out _ q hq
        obtain ⟨ao2, cp2, f2, hh2⟩ := HVB.out.kept HL.out
        injection f2 with f2 _ f2'
        subst f2
        subst f2'
        obtain ⟨g2, e2, k0, k1, _⟩ := hh2 _ q hq
        obtain ⟨g3, e3, k2, k3, _⟩ := hh3 i _ hqc
        subst e2
        subst e3
        have hz : ((q.2 + (s.size + 1) : Nat) : Int) = (q.2 : Int) + (s.size : Int) + 1 := by omega
        rw [show ((q.1, q.2 + (s.size + 1)) : Wd).2 = q.2 + (s.size + 1) from rfl, hz] at k3
        rw [show ((q.1, q.2 + (s.size + 1)) : Wd).1 = q.1 from rfl] at k2
        obtain ⟨j, hj⟩ : ∃ j, j = i - us.length := ⟨_, rfl⟩
        rw [← hj] at k0 k1
        have hjw : IntKind.i64.wrap ((i : Int) - (us.length : Int)) = (j : Int) := by rw [hj, IntWalk.i64_in _ ⟨by omega, by omega⟩]; omega
        have hj0 : (0 : Int) ≤ (j : Int) := by omega
        have hjI : (j : Int) < (bs.length : Int) := by omega
        have hw1 : IntKind.i64.wrap ((q.2 : Int) + (s.size : Int)) = (q.2 : Int) + (s.size : Int) := IntWalk.i64_in _ ⟨by omega, by omega⟩
        have hw2 : IntKind.i64.wrap ((q.2 : Int) + (s.size : Int) + 1) = (q.2 : Int) + (s.size : Int) + 1 := IntWalk.i64_in _ ⟨by omega, by omega⟩
        generalize (⟨q.1.toArray⟩ : ByteArray) = u at *
        generalize (q.2 : Int) = z at *
        have hgeN : (us.length ≤ i) = True := eq_true (by omega)
        have hltN : (i < us.length) = False := eq_false (by omega)
        clear hh2 hh3 hq hqc hclen hz hj hqp
        go_wp2_with (go_quiet (fail))
        go_roundw
        case rel => first | exact ⟨i + 1, by go_num, by omega, Lib.hid (HL.out.drewN _)⟩ | ((repeat apply Exists.intro); refine ⟨?_, rfl⟩; exact ⟨i + 1, by go_num, by omega, Lib.hid (HL.out.drewN _)⟩)
        case measure => simp [intOf]; omega
    · have hge : ¬ (i : Int) < (cs.length : Int) := by omega
      go_wp2_with fail
      go_ret
      exact ⟨rfl, HK.out.trans HL.out (fun _ _ h => h)⟩
theorem lexparts_walk (w : World) (s t : ByteArray) : Calls Try.prog 8 #[.string s, .string t] w fun e w' => e = .returned (.bool true) ∧ Kept (fun _ => False) w w' := by
  by_cases h1 : 2000 < s.size
  · exact lexparts_big s t w (.inl (by omega))
  · by_cases h2 : 2000 < t.size
    · exact lexparts_big s t w (.inr ⟨by omega, by omega⟩)
    · cases hb1 : bad s.data.toList with
      | some i => exact lexparts_bad s t w (by omega) (by omega) i (.inl hb1)
      | none =>
        cases hb2 : bad t.data.toList with
        | some i => exact lexparts_bad s t w (by omega) (by omega) i (.inr ⟨hb1, hb2⟩)
        | none => exact lexparts_good s t w (by omega) (by omega) hb1 hb2
end Go.Proofs.Ytdmpfonfghkffaa
