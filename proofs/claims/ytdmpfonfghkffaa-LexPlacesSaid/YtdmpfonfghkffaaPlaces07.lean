/-
  The walk over the law LexPlaces. Conditions: as each theorem states.
-/
import Derived.Test.YtdmpfonfghkffaaMathLex3
import Derived.Test.YtdmpfonfghkffaaTells07
import Derived.Test.YtdmpfonfghkffaaLex7c
import Derived.Test.YtdmpfonfghkffaaLex7d
namespace Go.Proofs.Ytdmpfonfghkffaa
open Go.RowKit Lex

theorem works7_p (w : World) : Calls Try.prog 9 #[] w fun e w' => e = .returned (.bool true) ∧ Kept (fun _ => False) w w' := works7_walk w (words_k w) (join_k w)
theorem words7_p (s : ByteArray) (hs : s.size ≤ 1000000) (ws : List Wd) (p : Nat) (er : Int) (h : answer s.data.toList = (ws, p, er)) (W : World) :
    Calls Try.prog 12 #[.string s] W fun e w' => (∃ v, e = .returned (.tuple #[v, .int .i64 (p : Int), .int .i64 er]) ∧ WdS w' v ws) ∧ Kept (fun _ => False) W w' := words_lit7 (words_k W) s hs ws p er h W (Kept.refl _ _)
set_option maxRecDepth 100000 in
set_option maxHeartbeats 2000000 in
theorem lexplaces_big (s : ByteArray) (w : World) (hs : (6000 : Int) < (s.size : Int)) :
    Calls Try.prog 6 #[.string s] w fun e w' => e = .returned (.bool true) ∧ Kept (fun _ => False) w w' := by
  have HK := Lib.hid (Kept.refl (fun _ => False) w)
  go_enter Try.func6, Try.ntmps6
  go_wp2_with (first
    | (go_at_call 9; refine (works7_p _).mono ?_; rintro e w3 ⟨rfl, hk3⟩; have HK := Lib.hid (Kept.trans HK.out hk3 (fun _ _ h => h)); clear hk3)
    | fail)
  go_ret
  exact ⟨rfl, HK.out⟩
set_option maxRecDepth 100000 in
set_option maxHeartbeats 2000000 in
theorem lexplaces_no (s : ByteArray) (w : World) (p : Nat) (er : Int) (hs : ¬ (6000 : Int) < (s.size : Int)) (h : answer s.data.toList = ([], p, er)) (he : (er != 0) = true) (hp : (p : Int) ≤ (s.size : Int)) :
    Calls Try.prog 6 #[.string s] w fun e w' => e = .returned (.bool true) ∧ Kept (fun _ => False) w w' := by
  have HK := Lib.hid (Kept.refl (fun _ => False) w)
  have WC := fun W => words7_p s (by omega) [] p er h W
  have hp0 : (0 : Int) ≤ (p : Int) := by omega
  clear h
  go_enter Try.func6, Try.ntmps6
  go_wp2_with (first
    | (go_at_call 9; refine (works7_p _).mono ?_; rintro e w3 ⟨rfl, hk3⟩; have HK := Lib.hid (Kept.trans HK.out hk3 (fun _ _ h => h)); clear hk3)
    | (go_at_call 12; refine (WC _).mono ?_; rintro e w6 ⟨⟨v, rfl, ⟨a2, c2, rfl, _⟩⟩, hk6⟩; have HK := Lib.hid (Kept.trans HK.out hk6 (fun _ _ h => h)); clear hk6)
    | fail)
  go_ret
  exact ⟨rfl, HK.out⟩
/-- What is behind the words so far: the place, and whether a bracket was the last. -/
def Behind7 (ws : List Wd) (i E : Nat) (pv : Bool) : Prop := (i = 0 ∧ E = 0 ∧ pv = true) ∨ ∃ j p, i = j + 1 ∧ ws[j]? = some p ∧ pv = bracketB p.1
set_option maxRecDepth 100000 in
set_option maxHeartbeats 4000000 in
theorem lexplaces_main (s : ByteArray) (w : World) (hs : s.size ≤ 4096) (hb : bad s.data.toList = none) :
    Calls Try.prog 6 #[.string s] w fun e w' => e = .returned (.bool true) ∧ Kept (fun _ => False) w w' := by
  have HK := Lib.hid (Kept.refl (fun _ => False) w)
  have HS := Lib.hid hs
  have HSL := Lib.hid (show s.data.toList.length = s.size from rfl)
  obtain ⟨ws, hws⟩ : ∃ ws, ws = words s.data.toList := ⟨_, rfl⟩
  have WC := fun W => words7_p s (by omega) ws 0 0 (by rw [hws]; exact answer_ok (show s.size ≤ 4096 by omega) hb) W
  have HL0 := Lib.hid (show Lies 0 true ws s.data.toList by rw [hws]; exact lies_words hb)
  have HWL := Lib.hid (show ws.length ≤ 4096 by
    have h := (lies_facts _ _ _ _ HL0.out).2
    have := HSL.out
    omega)
  have n1 : ¬ (6000 : Int) < (s.size : Int) := by omega
  clear hws hb hs
  go_enter Try.func6, Try.ntmps6
  go_wp2_with (first
    | (go_at_call 9; refine (works7_p _).mono ?_; rintro e w3 ⟨rfl, hk3⟩; have HK := Lib.hid (Kept.trans HK.out hk3 (fun _ _ h => h)); clear hk3)
    | (go_at_call 12; refine (WC _).mono ?_; rintro e w6 ⟨⟨v, rfl, ⟨a2, c2, rfl, hv⟩⟩, hk6⟩; have HK := Lib.hid (Kept.trans HK.out hk6 (fun _ _ h => h)); have HV := Lib.hid hv; clear hk6 hv)
    | fail)
  go_loopw [6, 7] (fun v6 v7 wr => ∃ (E i : Nat) (pv : Bool), v6 = .int .i64 (E : Int) ∧ v7 = .int .i64 (i : Int) ∧ i ≤ ws.length ∧ E ≤ s.size ∧ Hid (Lies E pv (ws.drop i) (s.data.toList.drop E)) ∧ Hid (Behind7 ws i E pv) ∧ Hid (w6 = wr)) (fun _ v7 _ => ws.length - (intOf v7).toNat)
  case atStart => exact ⟨0, 0, true, rfl, rfl, Nat.zero_le _, Nat.zero_le _, HL0, Lib.hid (.inl ⟨rfl, rfl, rfl⟩), Lib.hid rfl⟩
  case round =>
    obtain ⟨E, i, pv, rfl, rfl, hi, hE, HL, HB, HW⟩ := hrel
    have hwr := HW.out
    subst hwr
    have hwl := HWL.out
    have hsz := HS.out
    by_cases hlt : i < ws.length
    · obtain ⟨⟨t, a⟩, hp⟩ : ∃ p, ws[i]? = some p := ⟨_, List.getElem?_eq_getElem hlt⟩
      have hd : ws.drop i = (t, a) :: ws.drop (i + 1) := drop_here hp
      have hst := HL.out
      rw [hd] at hst
      obtain ⟨g1, g2, g3, g4, g5, g6, g7⟩ := lies_step hst (by rw [HSL.out]; exact hE)
      rw [HSL.out] at g2
      obtain ⟨g, eg, k0, k1, lg⟩ := HV.out i _ hp
      subst eg
      obtain ⟨u, hu⟩ : ∃ u : ByteArray, u = ⟨t.toArray⟩ := ⟨_, rfl⟩
      have hul : u.data.toList = t := by rw [hu]
      have husz : u.size = t.length := by rw [← hul]; rfl
      rw [← hu] at k0
      have hx : s.extract a (a + u.size) = u := by
        rw [extract_list, husz, Nat.add_sub_cancel_left, g4, hu]
      have hcut : ∀ wx : World, (Instr.slice 9 (.string s) (some (.int .i64 (a : Int))) (some (.int .i64 ((a : Int) + (u.size : Int)))) none).run Try.prog wx = .ok (.string u) wx := by
        intro wx
        rw [run_slice_string (P := Try.prog) (w := wx) 9 s .i64 .i64 (a : Int) ((a : Int) + (u.size : Int)) Try.underlying9 (by omega) (by omega) (by omega)]
        rw [show ((a : Int) + (u.size : Int)).toNat = a + u.size by omega, Int.toNat_natCast, hx]
      have hau : a + u.size ≤ s.size := by omega
      have PL := fun W => plain7_walk u W (by omega)
      rw [hul, g5] at PL
      have HC := Lib.hid g3
      have HN := Lib.hid (show Lies (a + u.size) (bracketB t) (ws.drop (i + 1)) (s.data.toList.drop (a + u.size)) by rw [husz]; exact g7)
      have HBN := Lib.hid (show Behind7 ws (i + 1) (a + u.size) (bracketB t) from .inr ⟨i, _, rfl, hp, rfl⟩)
      have H6 := Lib.hid g6
      have HUL := Lib.hid hul
      have hi0 : (0 : Int) ≤ (i : Int) := by omega
      have hiI : (i : Int) < (ws.length : Int) := by omega
      have haE : ¬ (a : Int) < (E : Int) := by omega
      have haS : ¬ (s.size : Int) < (a : Int) := by omega
      clear hst hd hu g2 g3 g4 g5 g6 g7 husz hul hx
      go_wp2_with fail
      rename World => w7
      go_loopw [9] (fun v9 wr => ∃ k : Nat, v9 = .int .i64 (k : Int) ∧ E ≤ k ∧ k ≤ a ∧ Hid (w7 = wr)) (fun v9 _ => a - (intOf v9).toNat)
      case atStart => exact ⟨E, rfl, Nat.le_refl _, g1, Lib.hid rfl⟩
      case round =>
        obtain ⟨k, rfl, hk1, hk2, HW2⟩ := hrel
        have hwr2 := HW2.out
        subst hwr2
        by_cases hka : k < a
        · obtain ⟨b, hb⟩ : ∃ b, b = s[k]'(by omega) := ⟨_, rfl⟩
          have hb32 : b = 32 := by
            have h := HC.out k hk1 hka
            rw [char_at (by omega) hb] at h
            injection h
          have hbI : ((b.toNat : Int) != 32) = false := by rw [hb32]; rfl
          have hc' : s[k]'(by omega) = b := hb.symm
          have hk0 : (0 : Int) ≤ (k : Int) := by omega
          have hkI : (k : Int) < (a : Int) := by omega
          have hkS : k < s.size := by omega
          clear hb hb32
          go_wp2_with fail
          go_roundw
          case rel => exact ⟨k + 1, by go_num, by omega, by omega, by first | exact Lib.hid trivial | exact Lib.hid rfl⟩
          case measure => simp [intOf]; omega
        · obtain rfl : k = a := by omega
          have hkI : ¬ (k : Int) < (k : Int) := by omega
          have hine : ((i : Int) == (ws.length : Int)) = false := by simp; omega
          have c0 : w7.cell? ⟨g, i * 2, none⟩ = some (.string u) := k0
          have ha1 : ¬ (s.size : Int) < (k : Int) + (u.size : Int) := by omega
          have hw1 : IntKind.i64.wrap ((k : Int) + (u.size : Int)) = (k : Int) + (u.size : Int) := IntWalk.i64_in _ ⟨by omega, by omega⟩
          have q3 := eq_lit u [40]
          have q4 := eq_lit u [41]
          rw [HUL.out] at q3 q4
          rcases HB.out with ⟨i0, _, _⟩ | ⟨j, p', ij, hpj, hpv⟩
          · subst i0
            clear q3 q4
            go_wp2_with (first
              | (go_at_call 17; refine (PL _).mono ?_; rintro e w8 ⟨rfl, hww⟩; have hwx := Eq.symm hww; clear hww; subst hwx)
              | fail)
            go_roundw
            case rel => first | exact ⟨k + u.size, 0 + 1, _, by go_num, by go_num, by omega, by omega, HN, HBN, by first | exact Lib.hid trivial | exact Lib.hid rfl⟩ | ((repeat apply Exists.intro); refine ⟨?_, rfl⟩; exact ⟨k + u.size, 0 + 1, _, by go_num, by go_num, by omega, by omega, HN, HBN, by first | exact Lib.hid trivial | exact Lib.hid rfl⟩)
            case measure => simp [intOf]; omega
          · subst ij
            have hij : ((j + 1 : Nat) : Int) = (j : Int) + 1 := by omega
            have hj1 : (0 : Int) < (j : Int) + 1 := by omega
            by_cases hkE : k = E
            · have hkEb : ((k : Int) == (E : Int)) = true := by simp; omega
              obtain ⟨g', eg', k0', k1', lg'⟩ := HV.out j _ hpj
              injection eg' with eg'
              injection eg' with eg' _ _
              subst eg'
              obtain ⟨u', hu'⟩ : ∃ u' : ByteArray, u' = ⟨p'.1.toArray⟩ := ⟨_, rfl⟩
              rw [← hu'] at k0'
              have hul' : u'.data.toList = p'.1 := by rw [hu']
              have q1 := eq_lit u' [40]
              have q2 := eq_lit u' [41]
              rw [hul'] at q1 q2
              have hcase := H6.out hkE
              rw [hpv] at hcase
              have hj0 : (0 : Int) ≤ (j : Int) := by omega
              have hjl : (j : Int) < (ws.length : Int) := by omega
              have hw5 : IntKind.i64.wrap ((j : Int) + 1 - 1) = (j : Int) := by rw [Int.add_sub_cancel]; exact IntWalk.i64_in _ ⟨by omega, by omega⟩
              have hw6 : IntKind.i64.wrap (j : Int) = (j : Int) := IntWalk.i64_in _ ⟨by omega, by omega⟩
              unfold bracketB at hcase
              simp only [Bool.or_eq_true, decide_eq_true_eq] at hcase
              clear hu' hul' hpj hpv k1' lg' hkE
              by_cases c1 : p'.1 = [40]
              · rw [decide_eq_true c1] at q1
                clear hcase c1 q2 q3 q4
                go_wp2_with (first
                  | (go_at_call 17; refine (PL _).mono ?_; rintro e w8 ⟨rfl, hww⟩; have hwx := Eq.symm hww; clear hww; subst hwx)
                  | fail)
                go_roundw
                case rel => first | exact ⟨k + u.size, j + 1 + 1, _, by go_num, by go_num, by omega, by omega, HN, HBN, by first | exact Lib.hid trivial | exact Lib.hid rfl⟩ | ((repeat apply Exists.intro); refine ⟨?_, rfl⟩; exact ⟨k + u.size, j + 1 + 1, _, by go_num, by go_num, by omega, by omega, HN, HBN, by first | exact Lib.hid trivial | exact Lib.hid rfl⟩)
                case measure => simp [intOf]; omega
              · rw [decide_eq_false c1] at q1
                by_cases c2 : p'.1 = [41]
                · rw [decide_eq_true c2] at q2
                  clear hcase c1 c2 q3 q4
                  go_wp2_with (first
                    | (go_at_call 17; refine (PL _).mono ?_; rintro e w8 ⟨rfl, hww⟩; have hwx := Eq.symm hww; clear hww; subst hwx)
                    | fail)
                  go_roundw
                  case rel => first | exact ⟨k + u.size, j + 1 + 1, _, by go_num, by go_num, by omega, by omega, HN, HBN, by first | exact Lib.hid trivial | exact Lib.hid rfl⟩ | ((repeat apply Exists.intro); refine ⟨?_, rfl⟩; exact ⟨k + u.size, j + 1 + 1, _, by go_num, by go_num, by omega, by omega, HN, HBN, by first | exact Lib.hid trivial | exact Lib.hid rfl⟩)
                  case measure => simp [intOf]; omega
                · rw [decide_eq_false c2] at q2
                  have hcase2 : t = [40] ∨ t = [41] := by rcases hcase with (h | h) | h; exact absurd h c1; exact absurd h c2; exact h
                  by_cases c3 : t = [40]
                  · rw [decide_eq_true c3] at q3
                    clear hcase hcase2 c1 c2 c3 q4
                    go_wp2_with (first
                      | (go_at_call 17; refine (PL _).mono ?_; rintro e w8 ⟨rfl, hww⟩; have hwx := Eq.symm hww; clear hww; subst hwx)
                      | fail)
                    go_roundw
                    case rel => first | exact ⟨k + u.size, j + 1 + 1, _, by go_num, by go_num, by omega, by omega, HN, HBN, by first | exact Lib.hid trivial | exact Lib.hid rfl⟩ | ((repeat apply Exists.intro); refine ⟨?_, rfl⟩; exact ⟨k + u.size, j + 1 + 1, _, by go_num, by go_num, by omega, by omega, HN, HBN, by first | exact Lib.hid trivial | exact Lib.hid rfl⟩)
                    case measure => simp [intOf]; omega
                  · have c4 : t = [41] := hcase2.resolve_left c3
                    rw [decide_eq_false c3] at q3
                    rw [decide_eq_true c4] at q4
                    clear hcase hcase2 c1 c2 c3 c4
                    go_wp2_with (first
                      | (go_at_call 17; refine (PL _).mono ?_; rintro e w8 ⟨rfl, hww⟩; have hwx := Eq.symm hww; clear hww; subst hwx)
                      | fail)
                    go_roundw
                    case rel => first | exact ⟨k + u.size, j + 1 + 1, _, by go_num, by go_num, by omega, by omega, HN, HBN, by first | exact Lib.hid trivial | exact Lib.hid rfl⟩ | ((repeat apply Exists.intro); refine ⟨?_, rfl⟩; exact ⟨k + u.size, j + 1 + 1, _, by go_num, by go_num, by omega, by omega, HN, HBN, by first | exact Lib.hid trivial | exact Lib.hid rfl⟩)
                    case measure => simp [intOf]; omega
            · have hkEb : ((k : Int) == (E : Int)) = false := by simp; omega
              clear q3 q4 hkE hpj hpv
              go_wp2_with (first
                | (go_at_call 17; refine (PL _).mono ?_; rintro e w8 ⟨rfl, hww⟩; have hwx := Eq.symm hww; clear hww; subst hwx)
                | fail)
              go_roundw
              case rel => first | exact ⟨k + u.size, j + 1 + 1, _, by go_num, by go_num, by omega, by omega, HN, HBN, by first | exact Lib.hid trivial | exact Lib.hid rfl⟩ | ((repeat apply Exists.intro); refine ⟨?_, rfl⟩; exact ⟨k + u.size, j + 1 + 1, _, by go_num, by go_num, by omega, by omega, HN, HBN, by first | exact Lib.hid trivial | exact Lib.hid rfl⟩)
              case measure => simp [intOf]; omega
    · obtain rfl : i = ws.length := by omega
      have hd0 : ws.drop ws.length = [] := List.drop_length
      have hst := HL.out
      rw [hd0] at hst
      have HC := Lib.hid (show ∀ k, E ≤ k → k < s.size → s.data.toList[k]? = some 32 from fun k h1 h2 => lies_end hst k h1 (by rw [HSL.out]; exact h2))
      have hiI : ¬ (ws.length : Int) < (ws.length : Int) := by omega
      have haE : ¬ (s.size : Int) < (E : Int) := by omega
      clear hst hd0
      go_wp2_with fail
      rename World => w7
      go_loopw [9] (fun v9 wr => ∃ k : Nat, v9 = .int .i64 (k : Int) ∧ E ≤ k ∧ k ≤ s.size ∧ Hid (w7 = wr)) (fun v9 _ => s.size - (intOf v9).toNat)
      case atStart => exact ⟨E, rfl, Nat.le_refl _, hE, Lib.hid rfl⟩
      case round =>
        obtain ⟨k, rfl, hk1, hk2, HW2⟩ := hrel
        have hwr2 := HW2.out
        subst hwr2
        by_cases hka : k < s.size
        · obtain ⟨b, hb⟩ : ∃ b, b = s[k]'(by omega) := ⟨_, rfl⟩
          have hb32 : b = 32 := by
            have h := HC.out k hk1 hka
            rw [char_at (by omega) hb] at h
            injection h
          have hbI : ((b.toNat : Int) != 32) = false := by rw [hb32]; rfl
          have hc' : s[k]'(by omega) = b := hb.symm
          have hk0 : (0 : Int) ≤ (k : Int) := by omega
          have hkI : (k : Int) < (s.size : Int) := by omega
          clear hb hb32
          go_wp2_with fail
          go_roundw
          case rel => exact ⟨k + 1, by go_num, by omega, by omega, by first | exact Lib.hid trivial | exact Lib.hid rfl⟩
          case measure => simp [intOf]; omega
        · obtain rfl : k = s.size := by omega
          have hkI : ¬ (s.size : Int) < (s.size : Int) := by omega
          go_wp2_with fail
          go_ret
          exact ⟨rfl, HK.out⟩
theorem lexplaces_walk (w : World) (s : ByteArray) : Calls Try.prog 6 #[.string s] w fun e w' => e = .returned (.bool true) ∧ Kept (fun _ => False) w w' := by
  have hsl : s.data.toList.length = s.size := rfl
  by_cases h6 : 6000 < s.size
  · exact lexplaces_big s w (by omega)
  · rcases answer_cases s.data.toList with ⟨_, h⟩ | ⟨_, i, _, hi, h⟩ | ⟨hl, hb, _⟩
    · exact lexplaces_no s w 0 40 (by omega) h rfl (by omega)
    · exact lexplaces_no s w i 4 (by omega) h rfl (by omega)
    · exact lexplaces_main s w (by omega) hb
end Go.Proofs.Ytdmpfonfghkffaa
