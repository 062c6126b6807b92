/-
  The law MatchTurned (layer 13). Conditions: as each theorem states.
-/
import Derived.Test.YtpdoeapjdifmbaaGreatDoorK28
import Derived.Test.YtpdoeapjdifmbaaGreatDoorK37
import Derived.Test.YtpdoeapjdifmbaaGreatDoorK38
namespace Go.Proofs.YtpdoeapjdifmbaaGreatDoor
open Go.RowKit Ver Evr Span Dep Rich

theorem numL_len13 (f : Nat → Bool) (n : Nat) : (numL f n).length ≤ n := by
  unfold numL
  rw [List.length_map]
  exact Nat.le_trans (List.length_filter_le _ _) (by simp)
theorem obd_at13 {P : List Pk} {n i : Nat} {z : Int} (h : (obdL P (n : Int))[i]? = some z) : ∃ m : Nat, z = (m : Int) ∧ m < P.length ∧ obsP P n m = true := by
  have hm := List.mem_of_getElem? h
  unfold obdL at hm
  rw [if_pos (by omega), Int.toNat_natCast] at hm
  exact numL_mem.1 hm
theorem obr_at13 {P : List Pk} {n i : Nat} {z : Int} (h : (obrL P (n : Int))[i]? = some z) : ∃ m : Nat, z = (m : Int) ∧ m < P.length ∧ obsP P m n = true := by
  have hm := List.mem_of_getElem? h
  unfold obrL at hm
  rw [if_pos (by omega), Int.toNat_natCast] at hm
  exact numL_mem.1 hm
theorem obd_mem13 {P : List Pk} {n m : Nat} (hm : m < P.length) (h : obsP P n m = true) : decide ((m : Int) ∈ obdL P (n : Int)) = true := by
  unfold obdL
  rw [if_pos (by omega), Int.toNat_natCast]
  exact decide_eq_true (numL_mem.2 ⟨m, rfl, hm, h⟩)
theorem obr_mem13 {P : List Pk} {n m : Nat} (hm : m < P.length) (h : obsP P m n = true) : decide ((m : Int) ∈ obrL P (n : Int)) = true := by
  unfold obrL
  rw [if_pos (by omega), Int.toNat_natCast]
  exact decide_eq_true (numL_mem.2 ⟨m, rfl, hm, h⟩)
theorem obsP_self13 (P : List Pk) (n : Nat) : obsP P n n = false := by
  unfold obsP
  rw [decide_eq_false (fun h => h rfl), Bool.false_and]
theorem obd_self13 (P : List Pk) (n : Nat) : decide ((n : Int) ∈ obdL P (n : Int)) = false := by
  refine decide_eq_false fun hm => ?_
  obtain ⟨i, hi⟩ := List.mem_iff_getElem?.1 hm
  obtain ⟨m, e, _, h⟩ := obd_at13 hi
  obtain rfl : n = m := by omega
  rw [obsP_self13] at h
  cases h
theorem obr_self13 (P : List Pk) (n : Nat) : decide ((n : Int) ∈ obrL P (n : Int)) = false := by
  refine decide_eq_false fun hm => ?_
  obtain ⟨i, hi⟩ := List.mem_iff_getElem?.1 hm
  obtain ⟨m, e, _, h⟩ := obr_at13 hi
  obtain rfl : n = m := by omega
  rw [obsP_self13] at h
  cases h
theorem obd_rise13 (P : List Pk) (n : Nat) : (obdL P (n : Int)).Pairwise (· < ·) := by
  unfold obdL
  rw [if_pos (by omega)]
  exact numL_rise _ _
theorem obr_rise13 (P : List Pk) (n : Nat) : (obrL P (n : Int)).Pairwise (· < ·) := by
  unfold obrL
  rw [if_pos (by omega)]
  exact numL_rise _ _
theorem obd_len13 (P : List Pk) (n : Nat) : (obdL P (n : Int)).length ≤ P.length := by
  unfold obdL
  rw [if_pos (by omega)]
  exact numL_len13 _ _
theorem obr_len13 (P : List Pk) (n : Nat) : (obrL P (n : Int)).length ≤ P.length := by
  unfold obrL
  rw [if_pos (by omega)]
  exact numL_len13 _ _
/-- Which obsoletes which, as the pool tells. -/
theorem pool_obs13 {lo : Nat} {w : World} {pb : Nat} {inst : Int} {I : List Pk} {l : List Rp} (hP : PoolS lo w pb inst (itemsN I l)) (ho : Ok13 I l (pksN I l)) (n m : Nat) (_ : n < (pksN I l).length) (_ : m < (pksN I l).length) (h : obsP (pksN I l) n m = true) :
    ∀ W, Kept (fun _ => False) w W → Calls Tryz.prog 21 #[.pointer (some ⟨pb, 0, none⟩), .int .i64 (n : Int), .int .i64 (m : Int)] W (fun e w' => e = .returned (.bool true) ∧ Kept (fun _ => False) W w') := by
  obtain ⟨B, v, mb, D, rs, h1, h2⟩ := hP
  have hrs : rs.map (fun r : PRow => r.p) = (pksN I l) := by
    unfold pksN
    rw [← h1, List.map_map]
    rfl
  intro W hk
  have hw := obsG12_walk (h2.quiet hk) (n : Int) (m : Int) (fun r hr => by
    have hx : r.p ∈ (pksN I l) := by rw [← hrs]; exact List.mem_map.2 ⟨r, hr, rfl⟩
    exact ⟨ho.fits _ hx, ho.may _ hx⟩)
  have hv : obsN rs (n : Int) (m : Int) = true := by
    obtain ⟨hne, p, q, hp, hq, hb⟩ := obsP_some h
    rw [← hrs, List.getElem?_map] at hp hq
    obtain ⟨r1, e1, rfl⟩ := Option.map_eq_some_iff.1 hp
    obtain ⟨r2, e2, rfl⟩ := Option.map_eq_some_iff.1 hq
    unfold obsN
    rw [rowN_some e1, rowN_some e2]
    show (!decide ((n : Int) = (m : Int)) && obsB r1.p r2.p) = true
    rw [decide_eq_false (by omega), hb]
    rfl
  rw [hv] at hw
  exact hw
/-- What the slots of the drawn regions hold. -/
def tb20z13 (I : List Pk) (l : List Rp) (n m _j : Nat) (_y : Int) (xb pb g o cS b0 : Nat) : List KdM := [.lit (.int .i64 0), .lit (.bool false), .lit (.bool false), .any, .any, .any, .any, .any, .any, .any, .any, .any, .any, .lit (.bool false), .lit (.bool false), .lit (.slice (some ⟨g, o, none⟩) (obrL (pksN I l) (n : Int)).length cS), .lit (.int .i64 0), .lit (.pointer (some ⟨g, o, none⟩)), .lit (.int .i64 (m : Int)), .lit (.bool false), .lit (.bool false), .lit (.bool false), .lit (.slice (some ⟨g, o, none⟩) (obrL (pksN I l) (n : Int)).length cS), .lit (.int .i64 0), .lit (.pointer (some ⟨g, o, none⟩)), .lit (.int .i64 (m : Int)), .lit (.pointer (some ⟨pb, 0, none⟩)), .lit (.int .i64 ((pksN I l).length : Int)), .lit (.bool false), .lit (.bool false), .lit (.bool false), .lit (.pointer (some ⟨xb, 0, none⟩)), .lit (.slice (some ⟨g, o, none⟩) (obrL (pksN I l) (n : Int)).length cS), .lit (.int .i64 0), .lit (.pointer (some ⟨g, o, none⟩)), .lit (.int .i64 (m : Int)), .own (b0) ((obdL (pksN I l) (m : Int))), .lit (.int .i64 (n : Int)), .lit (.bool true), .lit (.bool false), .lit (.bool false)]
def tb20s13 (I : List Pk) (l : List Rp) (n m jj : Nat) (y : Int) (xb pb g o cS b0 : Nat) : List KdM := [.lit (.int .i64 ((jj + 1 : Nat) : Int)), .lit (.bool true), .lit (.bool true), .lit (.slice (some ⟨g, o, none⟩) (obrL (pksN I l) (n : Int)).length cS), .lit (.int .i64 ((jj + 1 : Nat) : Int)), .lit (.pointer (some ⟨g, o + (jj + 1), none⟩)), .lit (.int .i64 (m : Int)), .lit (.slice (some ⟨g, o, none⟩) (obrL (pksN I l) (n : Int)).length cS), .lit (.int .i64 ((jj + 1 : Nat) : Int)), .lit (.int .i64 (jj : Int)), .lit (.pointer (some ⟨g, o + jj, none⟩)), .lit (.int .i64 y), .lit (.bool false), .lit (.bool false), .lit (.bool false), .lit (.slice (some ⟨g, o, none⟩) (obrL (pksN I l) (n : Int)).length cS), .lit (.int .i64 ((jj + 1 : Nat) : Int)), .lit (.pointer (some ⟨g, o + (jj + 1), none⟩)), .lit (.int .i64 (m : Int)), .lit (.bool false), .lit (.bool false), .lit (.bool false), .lit (.slice (some ⟨g, o, none⟩) (obrL (pksN I l) (n : Int)).length cS), .lit (.int .i64 ((jj + 1 : Nat) : Int)), .lit (.pointer (some ⟨g, o + (jj + 1), none⟩)), .lit (.int .i64 (m : Int)), .lit (.pointer (some ⟨pb, 0, none⟩)), .lit (.int .i64 ((pksN I l).length : Int)), .lit (.bool false), .lit (.bool false), .lit (.bool false), .lit (.pointer (some ⟨xb, 0, none⟩)), .lit (.slice (some ⟨g, o, none⟩) (obrL (pksN I l) (n : Int)).length cS), .lit (.int .i64 ((jj + 1 : Nat) : Int)), .lit (.pointer (some ⟨g, o + (jj + 1), none⟩)), .lit (.int .i64 (m : Int)), .own (b0) ((obdL (pksN I l) (m : Int))), .lit (.int .i64 (n : Int)), .lit (.bool true), .lit (.bool false), .lit (.bool false)]
def tb15z13 (I : List Pk) (l : List Rp) (n m _j : Nat) (_y : Int) (xb pb g o cS b0 : Nat) : List KdM := [.lit (.int .i64 0), .lit (.bool false), .lit (.bool false), .any, .any, .any, .any, .any, .any, .any, .any, .any, .any, .lit (.bool false), .lit (.bool false), .lit (.slice (some ⟨g, o, none⟩) (obdL (pksN I l) (n : Int)).length cS), .lit (.int .i64 0), .lit (.pointer (some ⟨g, o, none⟩)), .lit (.int .i64 (m : Int)), .lit (.bool false), .lit (.bool false), .lit (.bool false), .lit (.slice (some ⟨g, o, none⟩) (obdL (pksN I l) (n : Int)).length cS), .lit (.int .i64 0), .lit (.pointer (some ⟨g, o, none⟩)), .lit (.int .i64 (m : Int)), .lit (.pointer (some ⟨pb, 0, none⟩)), .lit (.int .i64 ((pksN I l).length : Int)), .lit (.bool false), .lit (.bool false), .lit (.bool false), .lit (.pointer (some ⟨xb, 0, none⟩)), .lit (.slice (some ⟨g, o, none⟩) (obdL (pksN I l) (n : Int)).length cS), .lit (.int .i64 0), .lit (.pointer (some ⟨g, o, none⟩)), .lit (.int .i64 (m : Int)), .own (b0) ((obrL (pksN I l) (m : Int))), .lit (.int .i64 (n : Int)), .lit (.bool true), .lit (.bool false), .lit (.bool false), .lit (.bool false), .lit (.pointer (some ⟨pb, 0, none⟩)), .lit (.int .i64 (n : Int)), .lit (.slice (some ⟨g, o, none⟩) (obdL (pksN I l) (n : Int)).length cS), .lit (.int .i64 0), .lit (.pointer (some ⟨g, o, none⟩)), .lit (.int .i64 (m : Int)), .lit (.bool true), .lit (.bool false), .lit (.bool false)]
def tb15s13 (I : List Pk) (l : List Rp) (n m jj : Nat) (y : Int) (xb pb g o cS b0 : Nat) : List KdM := [.lit (.int .i64 ((jj + 1 : Nat) : Int)), .lit (.bool true), .lit (.bool true), .lit (.slice (some ⟨g, o, none⟩) (obdL (pksN I l) (n : Int)).length cS), .lit (.int .i64 ((jj + 1 : Nat) : Int)), .lit (.pointer (some ⟨g, o + (jj + 1), none⟩)), .lit (.int .i64 (m : Int)), .lit (.slice (some ⟨g, o, none⟩) (obdL (pksN I l) (n : Int)).length cS), .lit (.int .i64 ((jj + 1 : Nat) : Int)), .lit (.int .i64 (jj : Int)), .lit (.pointer (some ⟨g, o + jj, none⟩)), .lit (.int .i64 y), .lit (.bool false), .lit (.bool false), .lit (.bool false), .lit (.slice (some ⟨g, o, none⟩) (obdL (pksN I l) (n : Int)).length cS), .lit (.int .i64 ((jj + 1 : Nat) : Int)), .lit (.pointer (some ⟨g, o + (jj + 1), none⟩)), .lit (.int .i64 (m : Int)), .lit (.bool false), .lit (.bool false), .lit (.bool false), .lit (.slice (some ⟨g, o, none⟩) (obdL (pksN I l) (n : Int)).length cS), .lit (.int .i64 ((jj + 1 : Nat) : Int)), .lit (.pointer (some ⟨g, o + (jj + 1), none⟩)), .lit (.int .i64 (m : Int)), .lit (.pointer (some ⟨pb, 0, none⟩)), .lit (.int .i64 ((pksN I l).length : Int)), .lit (.bool false), .lit (.bool false), .lit (.bool false), .lit (.pointer (some ⟨xb, 0, none⟩)), .lit (.slice (some ⟨g, o, none⟩) (obdL (pksN I l) (n : Int)).length cS), .lit (.int .i64 ((jj + 1 : Nat) : Int)), .lit (.pointer (some ⟨g, o + (jj + 1), none⟩)), .lit (.int .i64 (m : Int)), .own (b0) ((obrL (pksN I l) (m : Int))), .lit (.int .i64 (n : Int)), .lit (.bool true), .lit (.bool false), .lit (.bool false), .lit (.bool false), .lit (.pointer (some ⟨pb, 0, none⟩)), .lit (.int .i64 (n : Int)), .lit (.slice (some ⟨g, o, none⟩) (obdL (pksN I l) (n : Int)).length cS), .lit (.int .i64 ((jj + 1 : Nat) : Int)), .lit (.pointer (some ⟨g, o + (jj + 1), none⟩)), .lit (.int .i64 (m : Int)), .lit (.bool true), .lit (.bool false), .lit (.bool false)]
set_option maxRecDepth 100000 in
set_option maxHeartbeats 16000000 in
theorem matchturned_walk (l : List Rp) (I : List Pk) (rv iv : Value) (w : World) (hR : RpsS w rv l) (hI : PksS w iv I) (hF : LrgF l I) (hO : ∀ p, (p ∈ I ∨ ∃ r ∈ l, p ∈ r.2) → PkFits p) (hW : PkW w) :
    Calls Tryz.prog 8 #[rv, iv] w fun e w' => e = .returned (.bool true) ∧ Kept (fun _ => False) w w' := by
  have HR := Lib.hid hR
  have HIV := Lib.hid hI
  have HW := Lib.hid hW
  have HLF := Lib.hid hF
  have HO := Lib.hid hO
  clear hR hI hW hF hO
  go_enter Tryz.func8, Tryz.ntmps8
  go_wp2_with fail
  refine (works13_walk _ HW.out).mono ?_
  rintro e w1 ⟨rfl, hk1⟩
  have HK1 := Lib.hid hk1
  clear hk1
  go_wp2_with fail
  refine (large13_walk l I rv iv w1 (HR.out.kept HK1.out) (HIV.out.kept HK1.out) HLF.out HO.out).mono ?_
  rintro e w2 ⟨⟨y, rfl⟩, hk2⟩
  have HK2 := Lib.hid (HK1.out.trans hk2 (fun _ _ h => h))
  clear hk2
  cases y with
  | true =>
    go_wp2_with fail
    refine (works13_walk _ (HW.out.kept HK2.out)).mono ?_
    rintro e w3 ⟨rfl, hk3⟩
    go_wp2_with fail
    go_ret
    exact ⟨rfl, HK2.out.trans hk3 (fun _ _ h => h)⟩
  | false =>
    go_wp2_with fail
    refine (of13_walk l I rv iv w2 (HR.out.kept HK2.out) (HIV.out.kept HK2.out) HLF.out HO.out (HW.out.kept HK2.out)).mono ?_
    rintro e w4 ⟨hk4, ⟨_, rfl⟩ | ⟨xb, pb, rfl, _, hok, hP, lo, hI⟩⟩
    · have HK4 := Lib.hid hk4
      clear hk4
      go_wp2_with fail
      go_ret
      exact ⟨rfl, HK2.out.trans HK4.out (fun _ _ h => h)⟩
    have HI := Lib.hid hI
    obtain ⟨t1, _⟩ := pool_tells13 hP hok
    have HT1 := Lib.hid t1
    have HP := Lib.hid hP
    have HOK := Lib.hid hok
    have HKW := Lib.hid (HK2.out.trans hk4 (fun _ _ h => h))
    have HLN := Lib.hid (show (pksN I l).length < 1000000 by have := hok.few; omega)
    have HE2 := Lib.hid (show (evF namesO 0 (pksN I l)).length < 1000000 by have := hok.e2; omega)
    have hfew := hok.few
    clear hI hP hok hk4 t1 HR HIV HW HLF HO HK1 HK2
    go_wp2_with fail
    go_loopw [8] (fun v8 wo => ∃ n : Nat, v8 = .int .i64 (n : Int) ∧ n ≤ (pksN I l).length ∧ Hid (Kept (fun _ => False) w4 wo)) (fun v8 _ => (pksN I l).length - (intOf v8).toNat)
    case atStart => exact ⟨0, rfl, Nat.zero_le _, Lib.hid (Kept.refl _ _)⟩
    case round =>
      obtain ⟨n, rfl, hn, HKO⟩ := hrel
      rename World => wo
      go_wp2_with fail
      refine (HT1.out wo HKO.out).mono ?_
      rintro e w5 ⟨rfl, hk5⟩
      have HK5 := Lib.hid (HKO.out.trans hk5 (fun _ _ h => h))
      clear hk5
      by_cases hnl : n < (pksN I l).length
      · have hn0 : (0 : Int) ≤ (n : Int) := by omega
        have hnI : (n : Int) < ((pksN I l).length : Int) := by omega
        obtain ⟨p, hp⟩ : ∃ p, (pksN I l)[n]? = some p := ⟨_, List.getElem?_eq_getElem hnl⟩
        have HPP := Lib.hid hp
        have HNL := Lib.hid hnl
        clear hp
        go_wp2_with fail
        refine (obsoleted13_walk (HI.out.quiet HK5.out) HOK.out.fits HLN.out HOK.out.e1 n p HPP.out (names_few13 (HOK.out.may p (List.mem_of_getElem? HPP.out))).2).mono ?_
        rintro e wa ⟨⟨va, rfl, hoa⟩, hka⟩
        obtain ⟨aA, cA, eA⟩ := own_form hoa.1
        subst eA
        have HA0 := Lib.hid (ints_of_own hoa)
        have HKA := Lib.hid (HK5.out.trans hka (fun _ _ h => h))
        clear hoa hka
        go_wp2_with fail
        refine (obsoleters13_walk (HI.out.quiet HKA.out) HOK.out.fits HLN.out HE2.out n p HPP.out).mono ?_
        rintro e wb ⟨⟨vb, rfl, hob⟩, hkb⟩
        obtain ⟨aB, cB, eB⟩ := own_form hob.1
        subst eB
        have HB0 := Lib.hid (ints_of_own hob)
        have HA1 := Lib.hid (HA0.out.kept hkb)
        have HKB := Lib.hid (HKA.out.trans hkb (fun _ _ h => h))
        clear hob hkb
        go_wp2_with fail
        have hi1 := in13_walk _ (obdL (pksN I l) (n : Int)) (n : Int) wb HA1.out (by have h1 := obd_len13 (pksN I l) n; omega)
        rw [obd_self13] at hi1
        refine hi1.mono ?_
        rintro e wc ⟨rfl, hkc⟩
        have HKC := Lib.hid hkc
        clear hkc hi1
        go_wp2_with fail
        have hi2 := in13_walk _ (obrL (pksN I l) (n : Int)) (n : Int) wc (HB0.out.kept HKC.out) (by have h1 := obr_len13 (pksN I l) n; omega)
        rw [obr_self13] at hi2
        refine hi2.mono ?_
        rintro e w6 ⟨rfl, hk6⟩
        have HA := Lib.hid (HA1.out.kept (HKC.out.trans hk6 (fun _ _ h => h)))
        have HB := Lib.hid (HB0.out.kept (HKC.out.trans hk6 (fun _ _ h => h)))
        have HW6 := Lib.hid (HKB.out.trans (HKC.out.trans hk6 (fun _ _ h => h)) (fun _ _ h => h))
        have HK6 := HW6
        have hlA : (obdL (pksN I l) (n : Int)).length ≤ 256 := Nat.le_trans (obd_len13 _ _) hfew
        have hlB : (obrL (pksN I l) (n : Int)).length ≤ 256 := Nat.le_trans (obr_len13 _ _) hfew
        clear hk6 hi2 HA0 HA1 HB0 HKA HKB HKC HK5
        go_wp2_with fail
        go_loopw [11] (fun v11 wr => ∃ i : Nat, v11 = .int .i64 (i : Int) ∧ i ≤ (obdL (pksN I l) (n : Int)).length ∧ Hid (Kept (fun _ => False) w6 wr)) (fun v11 _ => (obdL (pksN I l) (n : Int)).length - (intOf v11).toNat)
        case atStart => exact ⟨0, rfl, Nat.zero_le _, Lib.hid (Kept.refl _ _)⟩
        case round =>
          obtain ⟨i, rfl, hi, HKR⟩ := hrel
          rename World => wr
          have HWR := Lib.hid (HW6.out.trans HKR.out (fun _ _ h => h))
          by_cases hlt : i < (obdL (pksN I l) (n : Int)).length
          · have hi0 : (0 : Int) ≤ (i : Int) := by omega
            have hiI : (i : Int) < ((obdL (pksN I l) (n : Int)).length : Int) := by omega
            obtain ⟨x, hx⟩ : ∃ x, (obdL (pksN I l) (n : Int))[i]? = some x := ⟨_, List.getElem?_eq_getElem hlt⟩
            obtain ⟨m, rfl, hmP, hob⟩ := obd_at13 hx
            obtain ⟨q, hq⟩ : ∃ q, (pksN I l)[m]? = some q := ⟨_, List.getElem?_eq_getElem hmP⟩
            have HQM := Lib.hid hq
            have HIN := Lib.hid (obr_mem13 HNL.out hob)
            have HPO := Lib.hid (pool_obs13 HP.out HOK.out n m HNL.out hmP hob)
            have hm0 : (0 : Int) ≤ (m : Int) := by omega
            have hmI : (m : Int) < ((pksN I l).length : Int) := by omega
            have hn0' : ¬ (m : Int) < 0 := by omega
            have hge' : ¬ ((pksN I l).length : Int) ≤ (m : Int) := by omega
            obtain ⟨a', c', e1, h1⟩ := HA.out.kept HKR.out
            injection e1 with e1 _ e3
            subst e1 e3
            obtain ⟨g, o, rfl, hg, cx⟩ := h1 i (m : Int) hx
            cases i with
            | zero =>
              have hiI0 : (0 : Int) < ((obdL (pksN I l) (n : Int)).length : Int) := by omega
              have HCX := Lib.hid (And.intro hg (show wr.cell? ⟨g, o, none⟩ = some (.int .i64 (m : Int)) from cx))
              clear hx hmP hob hq h1 hg cx
              go_wp2_with fail
              refine wp_region_inv (SM (tb15z13 I l n m 0 0 xb pb g o cA w4.heap.size)) (fun w1 w2 => Kept (fun _ => False) w1 w2) (fun _ w' => Kept (fun _ => False) wr w') (by kernel_rfl) (by kernel_rfl) (Kept.refl (fun _ => False) wr).drew (fun j w1 w2 v h hs => SM.kept (tb15z13 I l n m 0 0 xb pb g o cA w4.heap.size) j w1 w2 v h hs) ⟨OpOK.plain rfl ?r0, OpOK.plain rfl ?r1, OpOK.plain rfl ?r2, OpOK.no14 (g := 2) (d := 60) (b := true) rfl (by kernel_rfl) (by kernel_rfl) (by kernel_rfl) (by kernel_rfl), OpOK.no14 (g := 2) (d := 60) (b := true) rfl (by kernel_rfl) (by kernel_rfl) (by kernel_rfl) (by kernel_rfl), OpOK.no14 (g := 2) (d := 60) (b := true) rfl (by kernel_rfl) (by kernel_rfl) (by kernel_rfl) (by kernel_rfl), OpOK.no14 (g := 2) (d := 60) (b := true) rfl (by kernel_rfl) (by kernel_rfl) (by kernel_rfl) (by kernel_rfl), OpOK.no14 (g := 2) (d := 60) (b := true) rfl (by kernel_rfl) (by kernel_rfl) (by kernel_rfl) (by kernel_rfl), OpOK.no14 (g := 2) (d := 60) (b := true) rfl (by kernel_rfl) (by kernel_rfl) (by kernel_rfl) (by kernel_rfl), OpOK.no14 (g := 2) (d := 60) (b := true) rfl (by kernel_rfl) (by kernel_rfl) (by kernel_rfl) (by kernel_rfl), OpOK.no14 (g := 2) (d := 60) (b := true) rfl (by kernel_rfl) (by kernel_rfl) (by kernel_rfl) (by kernel_rfl), OpOK.no14 (g := 2) (d := 60) (b := true) rfl (by kernel_rfl) (by kernel_rfl) (by kernel_rfl) (by kernel_rfl), OpOK.no14 (g := 2) (d := 60) (b := true) rfl (by kernel_rfl) (by kernel_rfl) (by kernel_rfl) (by kernel_rfl), OpOK.plain rfl ?r13, OpOK.plain rfl ?r14, OpOK.yes (g := 14) (d := 72) (b := false) rfl (by kernel_rfl) (by kernel_rfl) (SM.gd (by kernel_rfl)) ?r15, OpOK.yes (g := 14) (d := 72) (b := false) rfl (by kernel_rfl) (by kernel_rfl) (SM.gd (by kernel_rfl)) ?r16, OpOK.yes (g := 14) (d := 72) (b := false) rfl (by kernel_rfl) (by kernel_rfl) (SM.gd (by kernel_rfl)) ?r17, OpOK.yes (g := 14) (d := 72) (b := false) rfl (by kernel_rfl) (by kernel_rfl) (SM.gd (by kernel_rfl)) ?r18, OpOK.yes (g := 14) (d := 72) (b := false) rfl (by kernel_rfl) (by kernel_rfl) (SM.gd (by kernel_rfl)) ?r19, OpOK.plain rfl ?r20, OpOK.plain rfl ?r21, OpOK.yes (g := 21) (d := 79) (b := false) rfl (by kernel_rfl) (by kernel_rfl) (SM.gd (by kernel_rfl)) ?r22, OpOK.yes (g := 21) (d := 79) (b := false) rfl (by kernel_rfl) (by kernel_rfl) (SM.gd (by kernel_rfl)) ?r23, OpOK.yes (g := 21) (d := 79) (b := false) rfl (by kernel_rfl) (by kernel_rfl) (SM.gd (by kernel_rfl)) ?r24, OpOK.yes (g := 21) (d := 79) (b := false) rfl (by kernel_rfl) (by kernel_rfl) (SM.gd (by kernel_rfl)) ?r25, OpOK.yes (g := 21) (d := 79) (b := false) rfl (by kernel_rfl) (by kernel_rfl) (SM.gd (by kernel_rfl)) ?r26, OpOK.yes (g := 21) (d := 79) (b := false) rfl (by kernel_rfl) (by kernel_rfl) (SM.gd (by kernel_rfl)) ?r27, OpOK.yes (g := 21) (d := 79) (b := false) rfl (by kernel_rfl) (by kernel_rfl) (SM.gd (by kernel_rfl)) ?r28, OpOK.plain rfl ?r29, OpOK.plain rfl ?r30, OpOK.yes (g := 30) (d := 88) (b := false) rfl (by kernel_rfl) (by kernel_rfl) (SM.gd (by kernel_rfl)) ?r31, OpOK.yes (g := 30) (d := 88) (b := false) rfl (by kernel_rfl) (by kernel_rfl) (SM.gd (by kernel_rfl)) ?r32, OpOK.yes (g := 30) (d := 88) (b := false) rfl (by kernel_rfl) (by kernel_rfl) (SM.gd (by kernel_rfl)) ?r33, OpOK.yes (g := 30) (d := 88) (b := false) rfl (by kernel_rfl) (by kernel_rfl) (SM.gd (by kernel_rfl)) ?r34, OpOK.yes (g := 30) (d := 88) (b := false) rfl (by kernel_rfl) (by kernel_rfl) (SM.gd (by kernel_rfl)) ?r35, OpOK.yes (g := 30) (d := 88) (b := false) rfl (by kernel_rfl) (by kernel_rfl) (SM.gd (by kernel_rfl)) ?r36, OpOK.yes (g := 30) (d := 88) (b := false) rfl (by kernel_rfl) (by kernel_rfl) (SM.gd (by kernel_rfl)) ?r37, OpOK.yes (g := 30) (d := 88) (b := false) rfl (by kernel_rfl) (by kernel_rfl) (SM.gd (by kernel_rfl)) ?r38, OpOK.yes (g := 30) (d := 88) (b := false) rfl (by kernel_rfl) (by kernel_rfl) (SM.gd (by kernel_rfl)) ?r39, OpOK.plain rfl ?r40, OpOK.plain rfl ?r41, OpOK.yes (g := 41) (d := 99) (b := false) rfl (by kernel_rfl) (by kernel_rfl) (SM.gd (by kernel_rfl)) ?r42, OpOK.yes (g := 41) (d := 99) (b := false) rfl (by kernel_rfl) (by kernel_rfl) (SM.gd (by kernel_rfl)) ?r43, OpOK.yes (g := 41) (d := 99) (b := false) rfl (by kernel_rfl) (by kernel_rfl) (SM.gd (by kernel_rfl)) ?r44, OpOK.yes (g := 41) (d := 99) (b := false) rfl (by kernel_rfl) (by kernel_rfl) (SM.gd (by kernel_rfl)) ?r45, OpOK.yes (g := 41) (d := 99) (b := false) rfl (by kernel_rfl) (by kernel_rfl) (SM.gd (by kernel_rfl)) ?r46, OpOK.yes (g := 41) (d := 99) (b := false) rfl (by kernel_rfl) (by kernel_rfl) (SM.gd (by kernel_rfl)) ?r47, OpOK.yes (g := 41) (d := 99) (b := false) rfl (by kernel_rfl) (by kernel_rfl) (SM.gd (by kernel_rfl)) ?r48, OpOK.yes (g := 41) (d := 99) (b := false) rfl (by kernel_rfl) (by kernel_rfl) (SM.gd (by kernel_rfl)) ?r49, OpOK.plain rfl ?r50, trivial⟩ ?rend
              case r0 =>
                intro ls a wz hC hz hnew hwait hs hd K hK
                obtain ⟨t11, t11'⟩ := tmp_both (hs 11 _ (by kernel_rfl) rfl)
                clear hs hd
                go_simp
                exact hK _ _ (Kept.refl (fun _ => False) wz) hC (fun _ => SM.pl (by kernel_rfl))
              case r1 =>
                intro ls a wz hC hz hnew hwait hs hd K hK
                obtain ⟨d0, d0'⟩ := SM.lt (.int .i64 0) (hd 0 58 (by kernel_rfl) (by kernel_rfl)) (by kernel_rfl)
                clear hs hd
                go_simp
                exact hK _ _ (Kept.refl (fun _ => False) wz) hC (fun _ => SM.pl (by kernel_rfl))
              case r2 =>
                intro ls a wz hC hz hnew hwait hs hd K hK
                obtain ⟨d1, d1'⟩ := SM.lt (.bool false) (hd 1 59 (by kernel_rfl) (by kernel_rfl)) (by kernel_rfl)
                clear hs hd
                go_simp
                exact hK _ _ (Kept.refl (fun _ => False) wz) hC (fun _ => SM.pl (by kernel_rfl))
              case r13 =>
                intro ls a wz hC hz hnew hwait hs hd K hK
                obtain ⟨d2, d2'⟩ := SM.lt (.bool false) (hd 2 60 (by kernel_rfl) (by kernel_rfl)) (by kernel_rfl)
                clear hs hd
                go_simp
                exact hK _ _ (Kept.refl (fun _ => False) wz) hC (fun _ => SM.pl (by kernel_rfl))
              case r14 =>
                intro ls a wz hC hz hnew hwait hs hd K hK
                obtain ⟨d13, d13'⟩ := SM.lt (.bool false) (hd 13 71 (by kernel_rfl) (by kernel_rfl)) (by kernel_rfl)
                clear hs hd
                go_simp
                exact hK _ _ (Kept.refl (fun _ => False) wz) hC (fun _ => SM.pl (by kernel_rfl))
              case r15 =>
                intro ls a wz hC hz hnew hwait hs hd K hK
                obtain ⟨t9, t9'⟩ := tmp_both (hs 9 _ (by kernel_rfl) rfl)
                clear hs hd
                go_simp
                exact hK _ _ (Kept.refl (fun _ => False) wz) hC (fun _ => SM.pl (by kernel_rfl))
              case r16 =>
                intro ls a wz hC hz hnew hwait hs hd K hK
                obtain ⟨t11, t11'⟩ := tmp_both (hs 11 _ (by kernel_rfl) rfl)
                clear hs hd
                go_simp
                exact hK _ _ (Kept.refl (fun _ => False) wz) hC (fun _ => SM.pl (by kernel_rfl))
              case r17 =>
                intro ls a wz hC hz hnew hwait hs hd K hK
                obtain ⟨d15, d15'⟩ := SM.lt (.slice (some ⟨g, o, none⟩) (obdL (pksN I l) (n : Int)).length cA) (hd 15 73 (by kernel_rfl) (by kernel_rfl)) (by kernel_rfl)
                obtain ⟨d16, d16'⟩ := SM.lt (.int .i64 0) (hd 16 74 (by kernel_rfl) (by kernel_rfl)) (by kernel_rfl)
                clear hs hd
                go_simp
                exact hK _ _ (Kept.refl (fun _ => False) wz) hC (fun _ => SM.pl (by kernel_rfl))
              case r18 =>
                intro ls a wz hC hz hnew hwait hs hd K hK
                obtain ⟨d17, d17'⟩ := SM.lt (.pointer (some ⟨g, o, none⟩)) (hd 17 75 (by kernel_rfl) (by kernel_rfl)) (by kernel_rfl)
                have ka := (hC.cell (p := ⟨g, o, none⟩) HCX.out.1 (fun h => h)).trans HCX.out.2
                clear hs hd
                go_simp
                exact hK _ _ (Kept.refl (fun _ => False) wz) hC (fun _ => SM.pl (by kernel_rfl))
              case r19 =>
                intro ls a wz hC hz hnew hwait hs hd K hK
                obtain ⟨d18, d18'⟩ := SM.lt (.int .i64 (m : Int)) (hd 18 76 (by kernel_rfl) (by kernel_rfl)) (by kernel_rfl)
                clear hs hd
                go_simp
                exact hK _ _ (Kept.refl (fun _ => False) wz) hC (fun _ => SM.mk (tbl := (tb15z13 I l n m 0 0 xb pb g o cA w4.heap.size)) (k := .lit (.bool false)) (by kernel_rfl) (by first | rfl | (unfold KdMS; congr 1; first | exact decide_eq_false (by omega) | exact IntWalk.i64_in _ ⟨by omega, by omega⟩)))
              case r20 =>
                intro ls a wz hC hz hnew hwait hs hd K hK
                obtain ⟨d14, d14'⟩ := SM.lt (.bool false) (hd 14 72 (by kernel_rfl) (by kernel_rfl)) (by kernel_rfl)
                obtain ⟨d19, d19'⟩ := SM.lt (.bool false) (hd 19 77 (by kernel_rfl) (by kernel_rfl)) (by kernel_rfl)
                clear hs hd
                go_simp
                exact hK _ _ (Kept.refl (fun _ => False) wz) hC (fun _ => SM.pl (by kernel_rfl))
              case r21 =>
                intro ls a wz hC hz hnew hwait hs hd K hK
                obtain ⟨d20, d20'⟩ := SM.lt (.bool false) (hd 20 78 (by kernel_rfl) (by kernel_rfl)) (by kernel_rfl)
                clear hs hd
                go_simp
                exact hK _ _ (Kept.refl (fun _ => False) wz) hC (fun _ => SM.pl (by kernel_rfl))
              case r22 =>
                intro ls a wz hC hz hnew hwait hs hd K hK
                obtain ⟨t9, t9'⟩ := tmp_both (hs 9 _ (by kernel_rfl) rfl)
                clear hs hd
                go_simp
                exact hK _ _ (Kept.refl (fun _ => False) wz) hC (fun _ => SM.pl (by kernel_rfl))
              case r23 =>
                intro ls a wz hC hz hnew hwait hs hd K hK
                obtain ⟨t11, t11'⟩ := tmp_both (hs 11 _ (by kernel_rfl) rfl)
                clear hs hd
                go_simp
                exact hK _ _ (Kept.refl (fun _ => False) wz) hC (fun _ => SM.pl (by kernel_rfl))
              case r24 =>
                intro ls a wz hC hz hnew hwait hs hd K hK
                obtain ⟨d22, d22'⟩ := SM.lt (.slice (some ⟨g, o, none⟩) (obdL (pksN I l) (n : Int)).length cA) (hd 22 80 (by kernel_rfl) (by kernel_rfl)) (by kernel_rfl)
                obtain ⟨d23, d23'⟩ := SM.lt (.int .i64 0) (hd 23 81 (by kernel_rfl) (by kernel_rfl)) (by kernel_rfl)
                clear hs hd
                go_simp
                exact hK _ _ (Kept.refl (fun _ => False) wz) hC (fun _ => SM.pl (by kernel_rfl))
              case r25 =>
                intro ls a wz hC hz hnew hwait hs hd K hK
                obtain ⟨d24, d24'⟩ := SM.lt (.pointer (some ⟨g, o, none⟩)) (hd 24 82 (by kernel_rfl) (by kernel_rfl)) (by kernel_rfl)
                have ka := (hC.cell (p := ⟨g, o, none⟩) HCX.out.1 (fun h => h)).trans HCX.out.2
                clear hs hd
                go_simp
                exact hK _ _ (Kept.refl (fun _ => False) wz) hC (fun _ => SM.pl (by kernel_rfl))
              case r26 =>
                intro ls a wz hC hz hnew hwait hs hd K hK
                obtain ⟨t6, t6'⟩ := tmp_both (hs 6 _ (by kernel_rfl) rfl)
                clear hs hd
                go_simp
                exact hK _ _ (Kept.refl (fun _ => False) wz) hC (fun _ => SM.pl (by kernel_rfl))
              case r27 =>
                intro ls a wz hC hz hnew hwait hs hd K hK
                obtain ⟨d26, d26'⟩ := SM.lt (.pointer (some ⟨pb, 0, none⟩)) (hd 26 84 (by kernel_rfl) (by kernel_rfl)) (by kernel_rfl)
                clear hs hd
                go_simp
                refine (HT1.out wz (HWR.out.trans hC (fun _ _ h => h))).mono ?_
                rintro e wv ⟨rfl, hkv⟩
                exact hK _ _ hkv (hC.trans hkv (fun _ _ h => h)) (fun _ => SM.mk (tbl := (tb15z13 I l n m 0 0 xb pb g o cA w4.heap.size)) (k := .lit (.int .i64 ((pksN I l).length : Int))) (by kernel_rfl) rfl)
              case r28 =>
                intro ls a wz hC hz hnew hwait hs hd K hK
                obtain ⟨d25, d25'⟩ := SM.lt (.int .i64 (m : Int)) (hd 25 83 (by kernel_rfl) (by kernel_rfl)) (by kernel_rfl)
                obtain ⟨d27, d27'⟩ := SM.lt (.int .i64 ((pksN I l).length : Int)) (hd 27 85 (by kernel_rfl) (by kernel_rfl)) (by kernel_rfl)
                clear hs hd
                go_simp
                exact hK _ _ (Kept.refl (fun _ => False) wz) hC (fun _ => SM.mk (tbl := (tb15z13 I l n m 0 0 xb pb g o cA w4.heap.size)) (k := .lit (.bool false)) (by kernel_rfl) (by first | rfl | (unfold KdMS; congr 1; first | exact decide_eq_false (by omega) | exact IntWalk.i64_in _ ⟨by omega, by omega⟩)))
              case r29 =>
                intro ls a wz hC hz hnew hwait hs hd K hK
                obtain ⟨d21, d21'⟩ := SM.lt (.bool false) (hd 21 79 (by kernel_rfl) (by kernel_rfl)) (by kernel_rfl)
                obtain ⟨d28, d28'⟩ := SM.lt (.bool false) (hd 28 86 (by kernel_rfl) (by kernel_rfl)) (by kernel_rfl)
                clear hs hd
                go_simp
                exact hK _ _ (Kept.refl (fun _ => False) wz) hC (fun _ => SM.pl (by kernel_rfl))
              case r30 =>
                intro ls a wz hC hz hnew hwait hs hd K hK
                obtain ⟨d29, d29'⟩ := SM.lt (.bool false) (hd 29 87 (by kernel_rfl) (by kernel_rfl)) (by kernel_rfl)
                clear hs hd
                go_simp
                exact hK _ _ (Kept.refl (fun _ => False) wz) hC (fun _ => SM.pl (by kernel_rfl))
              case r31 =>
                intro ls a wz hC hz hnew hwait hs hd K hK
                obtain ⟨t5, t5'⟩ := tmp_both (hs 5 _ (by kernel_rfl) rfl)
                clear hs hd
                go_simp
                exact hK _ _ (Kept.refl (fun _ => False) wz) hC (fun _ => SM.pl (by kernel_rfl))
              case r32 =>
                intro ls a wz hC hz hnew hwait hs hd K hK
                obtain ⟨t9, t9'⟩ := tmp_both (hs 9 _ (by kernel_rfl) rfl)
                clear hs hd
                go_simp
                exact hK _ _ (Kept.refl (fun _ => False) wz) hC (fun _ => SM.pl (by kernel_rfl))
              case r33 =>
                intro ls a wz hC hz hnew hwait hs hd K hK
                obtain ⟨t11, t11'⟩ := tmp_both (hs 11 _ (by kernel_rfl) rfl)
                clear hs hd
                go_simp
                exact hK _ _ (Kept.refl (fun _ => False) wz) hC (fun _ => SM.pl (by kernel_rfl))
              case r34 =>
                intro ls a wz hC hz hnew hwait hs hd K hK
                obtain ⟨d32, d32'⟩ := SM.lt (.slice (some ⟨g, o, none⟩) (obdL (pksN I l) (n : Int)).length cA) (hd 32 90 (by kernel_rfl) (by kernel_rfl)) (by kernel_rfl)
                obtain ⟨d33, d33'⟩ := SM.lt (.int .i64 0) (hd 33 91 (by kernel_rfl) (by kernel_rfl)) (by kernel_rfl)
                clear hs hd
                go_simp
                exact hK _ _ (Kept.refl (fun _ => False) wz) hC (fun _ => SM.pl (by kernel_rfl))
              case r35 =>
                intro ls a wz hC hz hnew hwait hs hd K hK
                obtain ⟨d34, d34'⟩ := SM.lt (.pointer (some ⟨g, o, none⟩)) (hd 34 92 (by kernel_rfl) (by kernel_rfl)) (by kernel_rfl)
                have ka := (hC.cell (p := ⟨g, o, none⟩) HCX.out.1 (fun h => h)).trans HCX.out.2
                clear hs hd
                go_simp
                exact hK _ _ (Kept.refl (fun _ => False) wz) hC (fun _ => SM.pl (by kernel_rfl))
              case r36 =>
                intro ls a wz hC hz hnew hwait hs hd K hK
                obtain ⟨d31, d31'⟩ := SM.lt (.pointer (some ⟨xb, 0, none⟩)) (hd 31 89 (by kernel_rfl) (by kernel_rfl)) (by kernel_rfl)
                obtain ⟨d35, d35'⟩ := SM.lt (.int .i64 (m : Int)) (hd 35 93 (by kernel_rfl) (by kernel_rfl)) (by kernel_rfl)
                clear hs hd
                go_simp
                refine (obsoleters13_walk (HI.out.quiet (HWR.out.trans hC (fun _ _ h => h))) HOK.out.fits HLN.out HE2.out m q HQM.out).mono ?_
                rintro e wv ⟨⟨v', rfl, ho⟩, hkv⟩
                have ho' := own_less13 ho (b := w4.heap.size) (HWR.out.trans hC (fun _ _ h => h)).size
                exact hK _ _ hkv (hC.trans hkv (fun _ _ h => h)) (fun _ => SM.mk (tbl := (tb15z13 I l n m 0 0 xb pb g o cA w4.heap.size)) (k := .own (w4.heap.size) ((obrL (pksN I l) (m : Int)))) (by kernel_rfl) ho')
              case r37 =>
                intro ls a wz hC hz hnew hwait hs hd K hK
                obtain ⟨t8, t8'⟩ := tmp_both (hs 8 _ (by kernel_rfl) rfl)
                clear hs hd
                go_simp
                exact hK _ _ (Kept.refl (fun _ => False) wz) hC (fun _ => SM.pl (by kernel_rfl))
              case r38 =>
                intro ls a wz hC hz hnew hwait hs hd K hK
                obtain ⟨v36, d36, hv36⟩ := hd 36 94 (by kernel_rfl) (by kernel_rfl)
                have hq36 : wz.ownsInts (w4.heap.size) 3 .i64 v36 ((obrL (pksN I l) (m : Int))) := SM.get (k := .own (w4.heap.size) ((obrL (pksN I l) (m : Int)))) (by kernel_rfl) hv36
                obtain ⟨ao36, cp36, e36⟩ := own_form hq36.1
                subst e36
                obtain ⟨-, d36'⟩ := tmp_both d36
                clear hv36
                obtain ⟨d37, d37'⟩ := SM.lt (.int .i64 (n : Int)) (hd 37 95 (by kernel_rfl) (by kernel_rfl)) (by kernel_rfl)
                clear hs hd
                go_simp
                have h := in13_walk _ (obrL (pksN I l) (m : Int)) (n : Int) wz (ints_of_own hq36) (by have h1 := obr_len13 (pksN I l) m; have h2 := HOK.out.few; omega)
                rw [HIN.out] at h
                refine h.mono ?_
                rintro e wv ⟨rfl, hkv⟩
                exact hK _ _ hkv (hC.trans hkv (fun _ _ h => h)) (fun _ => SM.mk (tbl := (tb15z13 I l n m 0 0 xb pb g o cA w4.heap.size)) (k := .lit (.bool true)) (by kernel_rfl) rfl)
              case r39 =>
                intro ls a wz hC hz hnew hwait hs hd K hK
                obtain ⟨d38, d38'⟩ := SM.lt (.bool true) (hd 38 96 (by kernel_rfl) (by kernel_rfl)) (by kernel_rfl)
                clear hs hd
                go_simp
                exact hK _ _ (Kept.refl (fun _ => False) wz) hC (fun _ => SM.pl (by kernel_rfl))
              case r40 =>
                intro ls a wz hC hz hnew hwait hs hd K hK
                obtain ⟨d30, d30'⟩ := SM.lt (.bool false) (hd 30 88 (by kernel_rfl) (by kernel_rfl)) (by kernel_rfl)
                obtain ⟨d39, d39'⟩ := SM.lt (.bool false) (hd 39 97 (by kernel_rfl) (by kernel_rfl)) (by kernel_rfl)
                clear hs hd
                go_simp
                exact hK _ _ (Kept.refl (fun _ => False) wz) hC (fun _ => SM.pl (by kernel_rfl))
              case r41 =>
                intro ls a wz hC hz hnew hwait hs hd K hK
                obtain ⟨d40, d40'⟩ := SM.lt (.bool false) (hd 40 98 (by kernel_rfl) (by kernel_rfl)) (by kernel_rfl)
                clear hs hd
                go_simp
                exact hK _ _ (Kept.refl (fun _ => False) wz) hC (fun _ => SM.pl (by kernel_rfl))
              case r42 =>
                intro ls a wz hC hz hnew hwait hs hd K hK
                obtain ⟨t6, t6'⟩ := tmp_both (hs 6 _ (by kernel_rfl) rfl)
                clear hs hd
                go_simp
                exact hK _ _ (Kept.refl (fun _ => False) wz) hC (fun _ => SM.pl (by kernel_rfl))
              case r43 =>
                intro ls a wz hC hz hnew hwait hs hd K hK
                obtain ⟨t8, t8'⟩ := tmp_both (hs 8 _ (by kernel_rfl) rfl)
                clear hs hd
                go_simp
                exact hK _ _ (Kept.refl (fun _ => False) wz) hC (fun _ => SM.pl (by kernel_rfl))
              case r44 =>
                intro ls a wz hC hz hnew hwait hs hd K hK
                obtain ⟨t9, t9'⟩ := tmp_both (hs 9 _ (by kernel_rfl) rfl)
                clear hs hd
                go_simp
                exact hK _ _ (Kept.refl (fun _ => False) wz) hC (fun _ => SM.pl (by kernel_rfl))
              case r45 =>
                intro ls a wz hC hz hnew hwait hs hd K hK
                obtain ⟨t11, t11'⟩ := tmp_both (hs 11 _ (by kernel_rfl) rfl)
                clear hs hd
                go_simp
                exact hK _ _ (Kept.refl (fun _ => False) wz) hC (fun _ => SM.pl (by kernel_rfl))
              case r46 =>
                intro ls a wz hC hz hnew hwait hs hd K hK
                obtain ⟨d44, d44'⟩ := SM.lt (.slice (some ⟨g, o, none⟩) (obdL (pksN I l) (n : Int)).length cA) (hd 44 102 (by kernel_rfl) (by kernel_rfl)) (by kernel_rfl)
                obtain ⟨d45, d45'⟩ := SM.lt (.int .i64 0) (hd 45 103 (by kernel_rfl) (by kernel_rfl)) (by kernel_rfl)
                clear hs hd
                go_simp
                exact hK _ _ (Kept.refl (fun _ => False) wz) hC (fun _ => SM.pl (by kernel_rfl))
              case r47 =>
                intro ls a wz hC hz hnew hwait hs hd K hK
                obtain ⟨d46, d46'⟩ := SM.lt (.pointer (some ⟨g, o, none⟩)) (hd 46 104 (by kernel_rfl) (by kernel_rfl)) (by kernel_rfl)
                have ka := (hC.cell (p := ⟨g, o, none⟩) HCX.out.1 (fun h => h)).trans HCX.out.2
                clear hs hd
                go_simp
                exact hK _ _ (Kept.refl (fun _ => False) wz) hC (fun _ => SM.pl (by kernel_rfl))
              case r48 =>
                intro ls a wz hC hz hnew hwait hs hd K hK
                obtain ⟨d42, d42'⟩ := SM.lt (.pointer (some ⟨pb, 0, none⟩)) (hd 42 100 (by kernel_rfl) (by kernel_rfl)) (by kernel_rfl)
                obtain ⟨d43, d43'⟩ := SM.lt (.int .i64 (n : Int)) (hd 43 101 (by kernel_rfl) (by kernel_rfl)) (by kernel_rfl)
                obtain ⟨d47, d47'⟩ := SM.lt (.int .i64 (m : Int)) (hd 47 105 (by kernel_rfl) (by kernel_rfl)) (by kernel_rfl)
                clear hs hd
                go_simp
                refine (HPO.out wz (HWR.out.trans hC (fun _ _ h => h))).mono ?_
                rintro e wv ⟨rfl, hkv⟩
                exact hK _ _ hkv (hC.trans hkv (fun _ _ h => h)) (fun _ => SM.mk (tbl := (tb15z13 I l n m 0 0 xb pb g o cA w4.heap.size)) (k := .lit (.bool true)) (by kernel_rfl) rfl)
              case r49 =>
                intro ls a wz hC hz hnew hwait hs hd K hK
                obtain ⟨d48, d48'⟩ := SM.lt (.bool true) (hd 48 106 (by kernel_rfl) (by kernel_rfl)) (by kernel_rfl)
                clear hs hd
                go_simp
                exact hK _ _ (Kept.refl (fun _ => False) wz) hC (fun _ => SM.pl (by kernel_rfl))
              case r50 =>
                intro ls a wz hC hz hnew hwait hs hd K hK
                obtain ⟨d41, d41'⟩ := SM.lt (.bool false) (hd 41 99 (by kernel_rfl) (by kernel_rfl)) (by kernel_rfl)
                obtain ⟨d49, d49'⟩ := SM.lt (.bool false) (hd 49 107 (by kernel_rfl) (by kernel_rfl)) (by kernel_rfl)
                clear hs hd
                go_simp
                exact hK _ _ (Kept.refl (fun _ => False) wz) hC (fun _ => SM.pl (by kernel_rfl))
              case rend =>
                intro ls wz hall hC
                intro u58 h58
                intro u59 h59
                intro u60 h60
                intro u61 h61
                intro u62 h62
                intro u63 h63
                intro u64 h64
                intro u65 h65
                intro u66 h66
                intro u67 h67
                intro u68 h68
                intro u69 h69
                intro u70 h70
                intro u71 h71
                intro u72 h72
                intro u73 h73
                intro u74 h74
                intro u75 h75
                intro u76 h76
                intro u77 h77
                intro u78 h78
                intro u79 h79
                intro u80 h80
                intro u81 h81
                intro u82 h82
                intro u83 h83
                intro u84 h84
                intro u85 h85
                intro u86 h86
                intro u87 h87
                intro u88 h88
                intro u89 h89
                intro u90 h90
                intro u91 h91
                intro u92 h92
                intro u93 h93
                intro u94 h94
                intro u95 h95
                intro u96 h96
                intro u97 h97
                intro u98 h98
                intro u99 h99
                intro u100 h100
                intro u101 h101
                intro u102 h102
                intro u103 h103
                intro u104 h104
                intro u105 h105
                intro u106 h106
                intro u107 h107
                intro u108 h108
                have hl : u108 = .bool false := SM.get (tbl := (tb15z13 I l n m 0 0 xb pb g o cA w4.heap.size)) (k := .lit (.bool false)) (by kernel_rfl) h108
                subst hl
                have HKZ := Lib.hid (HKR.out.trans hC (fun _ _ h => h))
                clear hall h58 h59 h60 h61 h62 h63 h64 h65 h66 h67 h68 h69 h70 h71 h72 h73 h74 h75 h76 h77 h78 h79 h80 h81 h82 h83 h84 h85 h86 h87 h88 h89 h90 h91 h92 h93 h94 h95 h96 h97 h98 h99 h100 h101 h102 h103 h104 h105 h106 h107
                simp only [EndsP]
                go_simp
                go_wp2_with fail
                go_roundw
                case rel => exact ⟨1, by go_num, by omega, HKZ⟩
                case measure => simp [intOf]; omega
            | succ jj =>
              obtain ⟨y, hy⟩ : ∃ y, (obdL (pksN I l) (n : Int))[jj]? = some y := ⟨_, List.getElem?_eq_getElem (by omega)⟩
              have hxy : y < (m : Int) := by
                have h2 := List.pairwise_iff_getElem.1 (obd_rise13 (pksN I l) n) jj (jj + 1) (by omega) hlt (by omega)
                rw [List.getElem?_eq_getElem hlt] at hx
                rw [List.getElem?_eq_getElem (by omega)] at hy
                injection hx with hx
                injection hy with hy
                rw [← hx, ← hy]
                exact h2
              obtain ⟨g2, o2, e2, _, cy⟩ := h1 jj y hy
              injection e2 with e2
              injection e2 with e2 e4 _
              subst e2 e4
              have HCX := Lib.hid (And.intro hg cx)
              have HCY := Lib.hid (And.intro hg cy)
              have hnle : ¬ (m : Int) ≤ y := by omega
              have hjw : IntKind.i64.wrap (((jj + 1 : Nat) : Int) - 1) = (jj : Int) := by
                have h3 := obd_len13 (pksN I l) n
                have h4 := HOK.out.few
                rw [IntWalk.i64_in _ ⟨by omega, by omega⟩]; omega
              have hj00 : (0 : Int) ≤ (jj : Int) := by omega
              have hjI2 : (jj : Int) < ((obdL (pksN I l) (n : Int)).length : Int) := by omega
              have hgt : (0 : Int) < ((jj + 1 : Nat) : Int) := by omega
              have hjb : jj + 1 < 1000 := by
                have h3 := obd_len13 (pksN I l) n
                have h4 := HOK.out.few
                omega
              clear hx hy hmP hob hq h1 hg cx cy hxy
              go_wp2_with fail
              refine wp_region_inv (SM (tb15s13 I l n m jj y xb pb g o cA w4.heap.size)) (fun w1 w2 => Kept (fun _ => False) w1 w2) (fun _ w' => Kept (fun _ => False) wr w') (by kernel_rfl) (by kernel_rfl) (Kept.refl (fun _ => False) wr).drew (fun j w1 w2 v h hs => SM.kept (tb15s13 I l n m jj y xb pb g o cA w4.heap.size) j w1 w2 v h hs) ⟨OpOK.plain rfl ?r0, OpOK.plain rfl ?r1, OpOK.plain rfl ?r2, OpOK.yes (g := 2) (d := 60) (b := true) rfl (by kernel_rfl) (by kernel_rfl) (SM.gd (by kernel_rfl)) ?r3, OpOK.yes (g := 2) (d := 60) (b := true) rfl (by kernel_rfl) (by kernel_rfl) (SM.gd (by kernel_rfl)) ?r4, OpOK.yes (g := 2) (d := 60) (b := true) rfl (by kernel_rfl) (by kernel_rfl) (SM.gd (by kernel_rfl)) ?r5, OpOK.yes (g := 2) (d := 60) (b := true) rfl (by kernel_rfl) (by kernel_rfl) (SM.gd (by kernel_rfl)) ?r6, OpOK.yes (g := 2) (d := 60) (b := true) rfl (by kernel_rfl) (by kernel_rfl) (SM.gd (by kernel_rfl)) ?r7, OpOK.yes (g := 2) (d := 60) (b := true) rfl (by kernel_rfl) (by kernel_rfl) (SM.gd (by kernel_rfl)) ?r8, OpOK.yes (g := 2) (d := 60) (b := true) rfl (by kernel_rfl) (by kernel_rfl) (SM.gd (by kernel_rfl)) ?r9, OpOK.yes (g := 2) (d := 60) (b := true) rfl (by kernel_rfl) (by kernel_rfl) (SM.gd (by kernel_rfl)) ?r10, OpOK.yes (g := 2) (d := 60) (b := true) rfl (by kernel_rfl) (by kernel_rfl) (SM.gd (by kernel_rfl)) ?r11, OpOK.yes (g := 2) (d := 60) (b := true) rfl (by kernel_rfl) (by kernel_rfl) (SM.gd (by kernel_rfl)) ?r12, OpOK.plain rfl ?r13, OpOK.plain rfl ?r14, OpOK.yes (g := 14) (d := 72) (b := false) rfl (by kernel_rfl) (by kernel_rfl) (SM.gd (by kernel_rfl)) ?r15, OpOK.yes (g := 14) (d := 72) (b := false) rfl (by kernel_rfl) (by kernel_rfl) (SM.gd (by kernel_rfl)) ?r16, OpOK.yes (g := 14) (d := 72) (b := false) rfl (by kernel_rfl) (by kernel_rfl) (SM.gd (by kernel_rfl)) ?r17, OpOK.yes (g := 14) (d := 72) (b := false) rfl (by kernel_rfl) (by kernel_rfl) (SM.gd (by kernel_rfl)) ?r18, OpOK.yes (g := 14) (d := 72) (b := false) rfl (by kernel_rfl) (by kernel_rfl) (SM.gd (by kernel_rfl)) ?r19, OpOK.plain rfl ?r20, OpOK.plain rfl ?r21, OpOK.yes (g := 21) (d := 79) (b := false) rfl (by kernel_rfl) (by kernel_rfl) (SM.gd (by kernel_rfl)) ?r22, OpOK.yes (g := 21) (d := 79) (b := false) rfl (by kernel_rfl) (by kernel_rfl) (SM.gd (by kernel_rfl)) ?r23, OpOK.yes (g := 21) (d := 79) (b := false) rfl (by kernel_rfl) (by kernel_rfl) (SM.gd (by kernel_rfl)) ?r24, OpOK.yes (g := 21) (d := 79) (b := false) rfl (by kernel_rfl) (by kernel_rfl) (SM.gd (by kernel_rfl)) ?r25, OpOK.yes (g := 21) (d := 79) (b := false) rfl (by kernel_rfl) (by kernel_rfl) (SM.gd (by kernel_rfl)) ?r26, OpOK.yes (g := 21) (d := 79) (b := false) rfl (by kernel_rfl) (by kernel_rfl) (SM.gd (by kernel_rfl)) ?r27, OpOK.yes (g := 21) (d := 79) (b := false) rfl (by kernel_rfl) (by kernel_rfl) (SM.gd (by kernel_rfl)) ?r28, OpOK.plain rfl ?r29, OpOK.plain rfl ?r30, OpOK.yes (g := 30) (d := 88) (b := false) rfl (by kernel_rfl) (by kernel_rfl) (SM.gd (by kernel_rfl)) ?r31, OpOK.yes (g := 30) (d := 88) (b := false) rfl (by kernel_rfl) (by kernel_rfl) (SM.gd (by kernel_rfl)) ?r32, OpOK.yes (g := 30) (d := 88) (b := false) rfl (by kernel_rfl) (by kernel_rfl) (SM.gd (by kernel_rfl)) ?r33, OpOK.yes (g := 30) (d := 88) (b := false) rfl (by kernel_rfl) (by kernel_rfl) (SM.gd (by kernel_rfl)) ?r34, OpOK.yes (g := 30) (d := 88) (b := false) rfl (by kernel_rfl) (by kernel_rfl) (SM.gd (by kernel_rfl)) ?r35, OpOK.yes (g := 30) (d := 88) (b := false) rfl (by kernel_rfl) (by kernel_rfl) (SM.gd (by kernel_rfl)) ?r36, OpOK.yes (g := 30) (d := 88) (b := false) rfl (by kernel_rfl) (by kernel_rfl) (SM.gd (by kernel_rfl)) ?r37, OpOK.yes (g := 30) (d := 88) (b := false) rfl (by kernel_rfl) (by kernel_rfl) (SM.gd (by kernel_rfl)) ?r38, OpOK.yes (g := 30) (d := 88) (b := false) rfl (by kernel_rfl) (by kernel_rfl) (SM.gd (by kernel_rfl)) ?r39, OpOK.plain rfl ?r40, OpOK.plain rfl ?r41, OpOK.yes (g := 41) (d := 99) (b := false) rfl (by kernel_rfl) (by kernel_rfl) (SM.gd (by kernel_rfl)) ?r42, OpOK.yes (g := 41) (d := 99) (b := false) rfl (by kernel_rfl) (by kernel_rfl) (SM.gd (by kernel_rfl)) ?r43, OpOK.yes (g := 41) (d := 99) (b := false) rfl (by kernel_rfl) (by kernel_rfl) (SM.gd (by kernel_rfl)) ?r44, OpOK.yes (g := 41) (d := 99) (b := false) rfl (by kernel_rfl) (by kernel_rfl) (SM.gd (by kernel_rfl)) ?r45, OpOK.yes (g := 41) (d := 99) (b := false) rfl (by kernel_rfl) (by kernel_rfl) (SM.gd (by kernel_rfl)) ?r46, OpOK.yes (g := 41) (d := 99) (b := false) rfl (by kernel_rfl) (by kernel_rfl) (SM.gd (by kernel_rfl)) ?r47, OpOK.yes (g := 41) (d := 99) (b := false) rfl (by kernel_rfl) (by kernel_rfl) (SM.gd (by kernel_rfl)) ?r48, OpOK.yes (g := 41) (d := 99) (b := false) rfl (by kernel_rfl) (by kernel_rfl) (SM.gd (by kernel_rfl)) ?r49, OpOK.plain rfl ?r50, trivial⟩ ?rend
              case r0 =>
                intro ls a wz hC hz hnew hwait hs hd K hK
                obtain ⟨t11, t11'⟩ := tmp_both (hs 11 _ (by kernel_rfl) rfl)
                clear hs hd
                go_simp
                exact hK _ _ (Kept.refl (fun _ => False) wz) hC (fun _ => SM.pl (by kernel_rfl))
              case r1 =>
                intro ls a wz hC hz hnew hwait hs hd K hK
                obtain ⟨d0, d0'⟩ := SM.lt (.int .i64 ((jj + 1 : Nat) : Int)) (hd 0 58 (by kernel_rfl) (by kernel_rfl)) (by kernel_rfl)
                clear hs hd
                go_simp
                exact hK _ _ (Kept.refl (fun _ => False) wz) hC (fun _ => SM.pl (by kernel_rfl))
              case r2 =>
                intro ls a wz hC hz hnew hwait hs hd K hK
                obtain ⟨d1, d1'⟩ := SM.lt (.bool true) (hd 1 59 (by kernel_rfl) (by kernel_rfl)) (by kernel_rfl)
                clear hs hd
                go_simp
                exact hK _ _ (Kept.refl (fun _ => False) wz) hC (fun _ => SM.pl (by kernel_rfl))
              case r3 =>
                intro ls a wz hC hz hnew hwait hs hd K hK
                obtain ⟨t9, t9'⟩ := tmp_both (hs 9 _ (by kernel_rfl) rfl)
                clear hs hd
                go_simp
                exact hK _ _ (Kept.refl (fun _ => False) wz) hC (fun _ => SM.pl (by kernel_rfl))
              case r4 =>
                intro ls a wz hC hz hnew hwait hs hd K hK
                obtain ⟨t11, t11'⟩ := tmp_both (hs 11 _ (by kernel_rfl) rfl)
                clear hs hd
                go_simp
                exact hK _ _ (Kept.refl (fun _ => False) wz) hC (fun _ => SM.pl (by kernel_rfl))
              case r5 =>
                intro ls a wz hC hz hnew hwait hs hd K hK
                obtain ⟨d3, d3'⟩ := SM.lt (.slice (some ⟨g, o, none⟩) (obdL (pksN I l) (n : Int)).length cA) (hd 3 61 (by kernel_rfl) (by kernel_rfl)) (by kernel_rfl)
                obtain ⟨d4, d4'⟩ := SM.lt (.int .i64 ((jj + 1 : Nat) : Int)) (hd 4 62 (by kernel_rfl) (by kernel_rfl)) (by kernel_rfl)
                clear hs hd
                go_simp
                exact hK _ _ (Kept.refl (fun _ => False) wz) hC (fun _ => SM.pl (by kernel_rfl))
              case r6 =>
                intro ls a wz hC hz hnew hwait hs hd K hK
                obtain ⟨d5, d5'⟩ := SM.lt (.pointer (some ⟨g, o + (jj + 1), none⟩)) (hd 5 63 (by kernel_rfl) (by kernel_rfl)) (by kernel_rfl)
                have ka := (hC.cell (p := ⟨g, o + (jj + 1), none⟩) HCX.out.1 (fun h => h)).trans HCX.out.2
                clear hs hd
                go_simp
                exact hK _ _ (Kept.refl (fun _ => False) wz) hC (fun _ => SM.pl (by kernel_rfl))
              case r7 =>
                intro ls a wz hC hz hnew hwait hs hd K hK
                obtain ⟨t9, t9'⟩ := tmp_both (hs 9 _ (by kernel_rfl) rfl)
                clear hs hd
                go_simp
                exact hK _ _ (Kept.refl (fun _ => False) wz) hC (fun _ => SM.pl (by kernel_rfl))
              case r8 =>
                intro ls a wz hC hz hnew hwait hs hd K hK
                obtain ⟨t11, t11'⟩ := tmp_both (hs 11 _ (by kernel_rfl) rfl)
                clear hs hd
                go_simp
                exact hK _ _ (Kept.refl (fun _ => False) wz) hC (fun _ => SM.pl (by kernel_rfl))
              case r9 =>
                intro ls a wz hC hz hnew hwait hs hd K hK
                obtain ⟨d8, d8'⟩ := SM.lt (.int .i64 ((jj + 1 : Nat) : Int)) (hd 8 66 (by kernel_rfl) (by kernel_rfl)) (by kernel_rfl)
                clear hs hd
                go_simp
                exact hK _ _ (Kept.refl (fun _ => False) wz) hC (fun _ => SM.mk (tbl := (tb15s13 I l n m jj y xb pb g o cA w4.heap.size)) (k := .lit (.int .i64 (jj : Int))) (by kernel_rfl) (by first | rfl | (unfold KdMS; congr 1; first | exact decide_eq_false (by omega) | exact IntWalk.i64_in _ ⟨by omega, by omega⟩)))
              case r10 =>
                intro ls a wz hC hz hnew hwait hs hd K hK
                obtain ⟨d7, d7'⟩ := SM.lt (.slice (some ⟨g, o, none⟩) (obdL (pksN I l) (n : Int)).length cA) (hd 7 65 (by kernel_rfl) (by kernel_rfl)) (by kernel_rfl)
                obtain ⟨d9, d9'⟩ := SM.lt (.int .i64 (jj : Int)) (hd 9 67 (by kernel_rfl) (by kernel_rfl)) (by kernel_rfl)
                clear hs hd
                go_simp
                exact hK _ _ (Kept.refl (fun _ => False) wz) hC (fun _ => SM.pl (by kernel_rfl))
              case r11 =>
                intro ls a wz hC hz hnew hwait hs hd K hK
                obtain ⟨d10, d10'⟩ := SM.lt (.pointer (some ⟨g, o + jj, none⟩)) (hd 10 68 (by kernel_rfl) (by kernel_rfl)) (by kernel_rfl)
                have kb := (hC.cell (p := ⟨g, o + jj, none⟩) HCY.out.1 (fun h => h)).trans HCY.out.2
                clear hs hd
                go_simp
                exact hK _ _ (Kept.refl (fun _ => False) wz) hC (fun _ => SM.pl (by kernel_rfl))
              case r12 =>
                intro ls a wz hC hz hnew hwait hs hd K hK
                obtain ⟨d6, d6'⟩ := SM.lt (.int .i64 (m : Int)) (hd 6 64 (by kernel_rfl) (by kernel_rfl)) (by kernel_rfl)
                obtain ⟨d11, d11'⟩ := SM.lt (.int .i64 y) (hd 11 69 (by kernel_rfl) (by kernel_rfl)) (by kernel_rfl)
                clear hs hd
                go_simp
                exact hK _ _ (Kept.refl (fun _ => False) wz) hC (fun _ => SM.mk (tbl := (tb15s13 I l n m jj y xb pb g o cA w4.heap.size)) (k := .lit (.bool false)) (by kernel_rfl) (by first | rfl | (unfold KdMS; congr 1; first | exact decide_eq_false (by omega) | exact IntWalk.i64_in _ ⟨by omega, by omega⟩)))
              case r13 =>
                intro ls a wz hC hz hnew hwait hs hd K hK
                obtain ⟨d2, d2'⟩ := SM.lt (.bool true) (hd 2 60 (by kernel_rfl) (by kernel_rfl)) (by kernel_rfl)
                obtain ⟨d12, d12'⟩ := SM.lt (.bool false) (hd 12 70 (by kernel_rfl) (by kernel_rfl)) (by kernel_rfl)
                clear hs hd
                go_simp
                exact hK _ _ (Kept.refl (fun _ => False) wz) hC (fun _ => SM.pl (by kernel_rfl))
              case r14 =>
                intro ls a wz hC hz hnew hwait hs hd K hK
                obtain ⟨d13, d13'⟩ := SM.lt (.bool false) (hd 13 71 (by kernel_rfl) (by kernel_rfl)) (by kernel_rfl)
                clear hs hd
                go_simp
                exact hK _ _ (Kept.refl (fun _ => False) wz) hC (fun _ => SM.pl (by kernel_rfl))
              case r15 =>
                intro ls a wz hC hz hnew hwait hs hd K hK
                obtain ⟨t9, t9'⟩ := tmp_both (hs 9 _ (by kernel_rfl) rfl)
                clear hs hd
                go_simp
                exact hK _ _ (Kept.refl (fun _ => False) wz) hC (fun _ => SM.pl (by kernel_rfl))
              case r16 =>
                intro ls a wz hC hz hnew hwait hs hd K hK
                obtain ⟨t11, t11'⟩ := tmp_both (hs 11 _ (by kernel_rfl) rfl)
                clear hs hd
                go_simp
                exact hK _ _ (Kept.refl (fun _ => False) wz) hC (fun _ => SM.pl (by kernel_rfl))
              case r17 =>
                intro ls a wz hC hz hnew hwait hs hd K hK
                obtain ⟨d15, d15'⟩ := SM.lt (.slice (some ⟨g, o, none⟩) (obdL (pksN I l) (n : Int)).length cA) (hd 15 73 (by kernel_rfl) (by kernel_rfl)) (by kernel_rfl)
                obtain ⟨d16, d16'⟩ := SM.lt (.int .i64 ((jj + 1 : Nat) : Int)) (hd 16 74 (by kernel_rfl) (by kernel_rfl)) (by kernel_rfl)
                clear hs hd
                go_simp
                exact hK _ _ (Kept.refl (fun _ => False) wz) hC (fun _ => SM.pl (by kernel_rfl))
              case r18 =>
                intro ls a wz hC hz hnew hwait hs hd K hK
                obtain ⟨d17, d17'⟩ := SM.lt (.pointer (some ⟨g, o + (jj + 1), none⟩)) (hd 17 75 (by kernel_rfl) (by kernel_rfl)) (by kernel_rfl)
                have ka := (hC.cell (p := ⟨g, o + (jj + 1), none⟩) HCX.out.1 (fun h => h)).trans HCX.out.2
                clear hs hd
                go_simp
                exact hK _ _ (Kept.refl (fun _ => False) wz) hC (fun _ => SM.pl (by kernel_rfl))
              case r19 =>
                intro ls a wz hC hz hnew hwait hs hd K hK
                obtain ⟨d18, d18'⟩ := SM.lt (.int .i64 (m : Int)) (hd 18 76 (by kernel_rfl) (by kernel_rfl)) (by kernel_rfl)
                clear hs hd
                go_simp
                exact hK _ _ (Kept.refl (fun _ => False) wz) hC (fun _ => SM.mk (tbl := (tb15s13 I l n m jj y xb pb g o cA w4.heap.size)) (k := .lit (.bool false)) (by kernel_rfl) (by first | rfl | (unfold KdMS; congr 1; first | exact decide_eq_false (by omega) | exact IntWalk.i64_in _ ⟨by omega, by omega⟩)))
              case r20 =>
                intro ls a wz hC hz hnew hwait hs hd K hK
                obtain ⟨d14, d14'⟩ := SM.lt (.bool false) (hd 14 72 (by kernel_rfl) (by kernel_rfl)) (by kernel_rfl)
                obtain ⟨d19, d19'⟩ := SM.lt (.bool false) (hd 19 77 (by kernel_rfl) (by kernel_rfl)) (by kernel_rfl)
                clear hs hd
                go_simp
                exact hK _ _ (Kept.refl (fun _ => False) wz) hC (fun _ => SM.pl (by kernel_rfl))
              case r21 =>
                intro ls a wz hC hz hnew hwait hs hd K hK
                obtain ⟨d20, d20'⟩ := SM.lt (.bool false) (hd 20 78 (by kernel_rfl) (by kernel_rfl)) (by kernel_rfl)
                clear hs hd
                go_simp
                exact hK _ _ (Kept.refl (fun _ => False) wz) hC (fun _ => SM.pl (by kernel_rfl))
              case r22 =>
                intro ls a wz hC hz hnew hwait hs hd K hK
                obtain ⟨t9, t9'⟩ := tmp_both (hs 9 _ (by kernel_rfl) rfl)
                clear hs hd
                go_simp
                exact hK _ _ (Kept.refl (fun _ => False) wz) hC (fun _ => SM.pl (by kernel_rfl))
              case r23 =>
                intro ls a wz hC hz hnew hwait hs hd K hK
                obtain ⟨t11, t11'⟩ := tmp_both (hs 11 _ (by kernel_rfl) rfl)
                clear hs hd
                go_simp
                exact hK _ _ (Kept.refl (fun _ => False) wz) hC (fun _ => SM.pl (by kernel_rfl))
              case r24 =>
                intro ls a wz hC hz hnew hwait hs hd K hK
                obtain ⟨d22, d22'⟩ := SM.lt (.slice (some ⟨g, o, none⟩) (obdL (pksN I l) (n : Int)).length cA) (hd 22 80 (by kernel_rfl) (by kernel_rfl)) (by kernel_rfl)
                obtain ⟨d23, d23'⟩ := SM.lt (.int .i64 ((jj + 1 : Nat) : Int)) (hd 23 81 (by kernel_rfl) (by kernel_rfl)) (by kernel_rfl)
                clear hs hd
                go_simp
                exact hK _ _ (Kept.refl (fun _ => False) wz) hC (fun _ => SM.pl (by kernel_rfl))
              case r25 =>
                intro ls a wz hC hz hnew hwait hs hd K hK
                obtain ⟨d24, d24'⟩ := SM.lt (.pointer (some ⟨g, o + (jj + 1), none⟩)) (hd 24 82 (by kernel_rfl) (by kernel_rfl)) (by kernel_rfl)
                have ka := (hC.cell (p := ⟨g, o + (jj + 1), none⟩) HCX.out.1 (fun h => h)).trans HCX.out.2
                clear hs hd
                go_simp
                exact hK _ _ (Kept.refl (fun _ => False) wz) hC (fun _ => SM.pl (by kernel_rfl))
              case r26 =>
                intro ls a wz hC hz hnew hwait hs hd K hK
                obtain ⟨t6, t6'⟩ := tmp_both (hs 6 _ (by kernel_rfl) rfl)
                clear hs hd
                go_simp
                exact hK _ _ (Kept.refl (fun _ => False) wz) hC (fun _ => SM.pl (by kernel_rfl))
              case r27 =>
                intro ls a wz hC hz hnew hwait hs hd K hK
                obtain ⟨d26, d26'⟩ := SM.lt (.pointer (some ⟨pb, 0, none⟩)) (hd 26 84 (by kernel_rfl) (by kernel_rfl)) (by kernel_rfl)
                clear hs hd
                go_simp
                refine (HT1.out wz (HWR.out.trans hC (fun _ _ h => h))).mono ?_
                rintro e wv ⟨rfl, hkv⟩
                exact hK _ _ hkv (hC.trans hkv (fun _ _ h => h)) (fun _ => SM.mk (tbl := (tb15s13 I l n m jj y xb pb g o cA w4.heap.size)) (k := .lit (.int .i64 ((pksN I l).length : Int))) (by kernel_rfl) rfl)
              case r28 =>
                intro ls a wz hC hz hnew hwait hs hd K hK
                obtain ⟨d25, d25'⟩ := SM.lt (.int .i64 (m : Int)) (hd 25 83 (by kernel_rfl) (by kernel_rfl)) (by kernel_rfl)
                obtain ⟨d27, d27'⟩ := SM.lt (.int .i64 ((pksN I l).length : Int)) (hd 27 85 (by kernel_rfl) (by kernel_rfl)) (by kernel_rfl)
                clear hs hd
                go_simp
                exact hK _ _ (Kept.refl (fun _ => False) wz) hC (fun _ => SM.mk (tbl := (tb15s13 I l n m jj y xb pb g o cA w4.heap.size)) (k := .lit (.bool false)) (by kernel_rfl) (by first | rfl | (unfold KdMS; congr 1; first | exact decide_eq_false (by omega) | exact IntWalk.i64_in _ ⟨by omega, by omega⟩)))
              case r29 =>
                intro ls a wz hC hz hnew hwait hs hd K hK
                obtain ⟨d21, d21'⟩ := SM.lt (.bool false) (hd 21 79 (by kernel_rfl) (by kernel_rfl)) (by kernel_rfl)
                obtain ⟨d28, d28'⟩ := SM.lt (.bool false) (hd 28 86 (by kernel_rfl) (by kernel_rfl)) (by kernel_rfl)
                clear hs hd
                go_simp
                exact hK _ _ (Kept.refl (fun _ => False) wz) hC (fun _ => SM.pl (by kernel_rfl))
              case r30 =>
                intro ls a wz hC hz hnew hwait hs hd K hK
                obtain ⟨d29, d29'⟩ := SM.lt (.bool false) (hd 29 87 (by kernel_rfl) (by kernel_rfl)) (by kernel_rfl)
                clear hs hd
                go_simp
                exact hK _ _ (Kept.refl (fun _ => False) wz) hC (fun _ => SM.pl (by kernel_rfl))
              case r31 =>
                intro ls a wz hC hz hnew hwait hs hd K hK
                obtain ⟨t5, t5'⟩ := tmp_both (hs 5 _ (by kernel_rfl) rfl)
                clear hs hd
                go_simp
                exact hK _ _ (Kept.refl (fun _ => False) wz) hC (fun _ => SM.pl (by kernel_rfl))
              case r32 =>
                intro ls a wz hC hz hnew hwait hs hd K hK
                obtain ⟨t9, t9'⟩ := tmp_both (hs 9 _ (by kernel_rfl) rfl)
                clear hs hd
                go_simp
                exact hK _ _ (Kept.refl (fun _ => False) wz) hC (fun _ => SM.pl (by kernel_rfl))
              case r33 =>
                intro ls a wz hC hz hnew hwait hs hd K hK
                obtain ⟨t11, t11'⟩ := tmp_both (hs 11 _ (by kernel_rfl) rfl)
                clear hs hd
                go_simp
                exact hK _ _ (Kept.refl (fun _ => False) wz) hC (fun _ => SM.pl (by kernel_rfl))
              case r34 =>
                intro ls a wz hC hz hnew hwait hs hd K hK
                obtain ⟨d32, d32'⟩ := SM.lt (.slice (some ⟨g, o, none⟩) (obdL (pksN I l) (n : Int)).length cA) (hd 32 90 (by kernel_rfl) (by kernel_rfl)) (by kernel_rfl)
                obtain ⟨d33, d33'⟩ := SM.lt (.int .i64 ((jj + 1 : Nat) : Int)) (hd 33 91 (by kernel_rfl) (by kernel_rfl)) (by kernel_rfl)
                clear hs hd
                go_simp
                exact hK _ _ (Kept.refl (fun _ => False) wz) hC (fun _ => SM.pl (by kernel_rfl))
              case r35 =>
                intro ls a wz hC hz hnew hwait hs hd K hK
                obtain ⟨d34, d34'⟩ := SM.lt (.pointer (some ⟨g, o + (jj + 1), none⟩)) (hd 34 92 (by kernel_rfl) (by kernel_rfl)) (by kernel_rfl)
                have ka := (hC.cell (p := ⟨g, o + (jj + 1), none⟩) HCX.out.1 (fun h => h)).trans HCX.out.2
                clear hs hd
                go_simp
                exact hK _ _ (Kept.refl (fun _ => False) wz) hC (fun _ => SM.pl (by kernel_rfl))
              case r36 =>
                intro ls a wz hC hz hnew hwait hs hd K hK
                obtain ⟨d31, d31'⟩ := SM.lt (.pointer (some ⟨xb, 0, none⟩)) (hd 31 89 (by kernel_rfl) (by kernel_rfl)) (by kernel_rfl)
                obtain ⟨d35, d35'⟩ := SM.lt (.int .i64 (m : Int)) (hd 35 93 (by kernel_rfl) (by kernel_rfl)) (by kernel_rfl)
                clear hs hd
                go_simp
                refine (obsoleters13_walk (HI.out.quiet (HWR.out.trans hC (fun _ _ h => h))) HOK.out.fits HLN.out HE2.out m q HQM.out).mono ?_
                rintro e wv ⟨⟨v', rfl, ho⟩, hkv⟩
                have ho' := own_less13 ho (b := w4.heap.size) (HWR.out.trans hC (fun _ _ h => h)).size
                exact hK _ _ hkv (hC.trans hkv (fun _ _ h => h)) (fun _ => SM.mk (tbl := (tb15s13 I l n m jj y xb pb g o cA w4.heap.size)) (k := .own (w4.heap.size) ((obrL (pksN I l) (m : Int)))) (by kernel_rfl) ho')
              case r37 =>
                intro ls a wz hC hz hnew hwait hs hd K hK
                obtain ⟨t8, t8'⟩ := tmp_both (hs 8 _ (by kernel_rfl) rfl)
                clear hs hd
                go_simp
                exact hK _ _ (Kept.refl (fun _ => False) wz) hC (fun _ => SM.pl (by kernel_rfl))
              case r38 =>
                intro ls a wz hC hz hnew hwait hs hd K hK
                obtain ⟨v36, d36, hv36⟩ := hd 36 94 (by kernel_rfl) (by kernel_rfl)
                have hq36 : wz.ownsInts (w4.heap.size) 3 .i64 v36 ((obrL (pksN I l) (m : Int))) := SM.get (k := .own (w4.heap.size) ((obrL (pksN I l) (m : Int)))) (by kernel_rfl) hv36
                obtain ⟨ao36, cp36, e36⟩ := own_form hq36.1
                subst e36
                obtain ⟨-, d36'⟩ := tmp_both d36
                clear hv36
                obtain ⟨d37, d37'⟩ := SM.lt (.int .i64 (n : Int)) (hd 37 95 (by kernel_rfl) (by kernel_rfl)) (by kernel_rfl)
                clear hs hd
                go_simp
                have h := in13_walk _ (obrL (pksN I l) (m : Int)) (n : Int) wz (ints_of_own hq36) (by have h1 := obr_len13 (pksN I l) m; have h2 := HOK.out.few; omega)
                rw [HIN.out] at h
                refine h.mono ?_
                rintro e wv ⟨rfl, hkv⟩
                exact hK _ _ hkv (hC.trans hkv (fun _ _ h => h)) (fun _ => SM.mk (tbl := (tb15s13 I l n m jj y xb pb g o cA w4.heap.size)) (k := .lit (.bool true)) (by kernel_rfl) rfl)
              case r39 =>
                intro ls a wz hC hz hnew hwait hs hd K hK
                obtain ⟨d38, d38'⟩ := SM.lt (.bool true) (hd 38 96 (by kernel_rfl) (by kernel_rfl)) (by kernel_rfl)
                clear hs hd
                go_simp
                exact hK _ _ (Kept.refl (fun _ => False) wz) hC (fun _ => SM.pl (by kernel_rfl))
              case r40 =>
                intro ls a wz hC hz hnew hwait hs hd K hK
                obtain ⟨d30, d30'⟩ := SM.lt (.bool false) (hd 30 88 (by kernel_rfl) (by kernel_rfl)) (by kernel_rfl)
                obtain ⟨d39, d39'⟩ := SM.lt (.bool false) (hd 39 97 (by kernel_rfl) (by kernel_rfl)) (by kernel_rfl)
                clear hs hd
                go_simp
                exact hK _ _ (Kept.refl (fun _ => False) wz) hC (fun _ => SM.pl (by kernel_rfl))
              case r41 =>
                intro ls a wz hC hz hnew hwait hs hd K hK
                obtain ⟨d40, d40'⟩ := SM.lt (.bool false) (hd 40 98 (by kernel_rfl) (by kernel_rfl)) (by kernel_rfl)
                clear hs hd
                go_simp
                exact hK _ _ (Kept.refl (fun _ => False) wz) hC (fun _ => SM.pl (by kernel_rfl))
              case r42 =>
                intro ls a wz hC hz hnew hwait hs hd K hK
                obtain ⟨t6, t6'⟩ := tmp_both (hs 6 _ (by kernel_rfl) rfl)
                clear hs hd
                go_simp
                exact hK _ _ (Kept.refl (fun _ => False) wz) hC (fun _ => SM.pl (by kernel_rfl))
              case r43 =>
                intro ls a wz hC hz hnew hwait hs hd K hK
                obtain ⟨t8, t8'⟩ := tmp_both (hs 8 _ (by kernel_rfl) rfl)
                clear hs hd
                go_simp
                exact hK _ _ (Kept.refl (fun _ => False) wz) hC (fun _ => SM.pl (by kernel_rfl))
              case r44 =>
                intro ls a wz hC hz hnew hwait hs hd K hK
                obtain ⟨t9, t9'⟩ := tmp_both (hs 9 _ (by kernel_rfl) rfl)
                clear hs hd
                go_simp
                exact hK _ _ (Kept.refl (fun _ => False) wz) hC (fun _ => SM.pl (by kernel_rfl))
              case r45 =>
                intro ls a wz hC hz hnew hwait hs hd K hK
                obtain ⟨t11, t11'⟩ := tmp_both (hs 11 _ (by kernel_rfl) rfl)
                clear hs hd
                go_simp
                exact hK _ _ (Kept.refl (fun _ => False) wz) hC (fun _ => SM.pl (by kernel_rfl))
              case r46 =>
                intro ls a wz hC hz hnew hwait hs hd K hK
                obtain ⟨d44, d44'⟩ := SM.lt (.slice (some ⟨g, o, none⟩) (obdL (pksN I l) (n : Int)).length cA) (hd 44 102 (by kernel_rfl) (by kernel_rfl)) (by kernel_rfl)
                obtain ⟨d45, d45'⟩ := SM.lt (.int .i64 ((jj + 1 : Nat) : Int)) (hd 45 103 (by kernel_rfl) (by kernel_rfl)) (by kernel_rfl)
                clear hs hd
                go_simp
                exact hK _ _ (Kept.refl (fun _ => False) wz) hC (fun _ => SM.pl (by kernel_rfl))
              case r47 =>
                intro ls a wz hC hz hnew hwait hs hd K hK
                obtain ⟨d46, d46'⟩ := SM.lt (.pointer (some ⟨g, o + (jj + 1), none⟩)) (hd 46 104 (by kernel_rfl) (by kernel_rfl)) (by kernel_rfl)
                have ka := (hC.cell (p := ⟨g, o + (jj + 1), none⟩) HCX.out.1 (fun h => h)).trans HCX.out.2
                clear hs hd
                go_simp
                exact hK _ _ (Kept.refl (fun _ => False) wz) hC (fun _ => SM.pl (by kernel_rfl))
              case r48 =>
                intro ls a wz hC hz hnew hwait hs hd K hK
                obtain ⟨d42, d42'⟩ := SM.lt (.pointer (some ⟨pb, 0, none⟩)) (hd 42 100 (by kernel_rfl) (by kernel_rfl)) (by kernel_rfl)
                obtain ⟨d43, d43'⟩ := SM.lt (.int .i64 (n : Int)) (hd 43 101 (by kernel_rfl) (by kernel_rfl)) (by kernel_rfl)
                obtain ⟨d47, d47'⟩ := SM.lt (.int .i64 (m : Int)) (hd 47 105 (by kernel_rfl) (by kernel_rfl)) (by kernel_rfl)
                clear hs hd
                go_simp
                refine (HPO.out wz (HWR.out.trans hC (fun _ _ h => h))).mono ?_
                rintro e wv ⟨rfl, hkv⟩
                exact hK _ _ hkv (hC.trans hkv (fun _ _ h => h)) (fun _ => SM.mk (tbl := (tb15s13 I l n m jj y xb pb g o cA w4.heap.size)) (k := .lit (.bool true)) (by kernel_rfl) rfl)
              case r49 =>
                intro ls a wz hC hz hnew hwait hs hd K hK
                obtain ⟨d48, d48'⟩ := SM.lt (.bool true) (hd 48 106 (by kernel_rfl) (by kernel_rfl)) (by kernel_rfl)
                clear hs hd
                go_simp
                exact hK _ _ (Kept.refl (fun _ => False) wz) hC (fun _ => SM.pl (by kernel_rfl))
              case r50 =>
                intro ls a wz hC hz hnew hwait hs hd K hK
                obtain ⟨d41, d41'⟩ := SM.lt (.bool false) (hd 41 99 (by kernel_rfl) (by kernel_rfl)) (by kernel_rfl)
                obtain ⟨d49, d49'⟩ := SM.lt (.bool false) (hd 49 107 (by kernel_rfl) (by kernel_rfl)) (by kernel_rfl)
                clear hs hd
                go_simp
                exact hK _ _ (Kept.refl (fun _ => False) wz) hC (fun _ => SM.pl (by kernel_rfl))
              case rend =>
                intro ls wz hall hC
                intro u58 h58
                intro u59 h59
                intro u60 h60
                intro u61 h61
                intro u62 h62
                intro u63 h63
                intro u64 h64
                intro u65 h65
                intro u66 h66
                intro u67 h67
                intro u68 h68
                intro u69 h69
                intro u70 h70
                intro u71 h71
                intro u72 h72
                intro u73 h73
                intro u74 h74
                intro u75 h75
                intro u76 h76
                intro u77 h77
                intro u78 h78
                intro u79 h79
                intro u80 h80
                intro u81 h81
                intro u82 h82
                intro u83 h83
                intro u84 h84
                intro u85 h85
                intro u86 h86
                intro u87 h87
                intro u88 h88
                intro u89 h89
                intro u90 h90
                intro u91 h91
                intro u92 h92
                intro u93 h93
                intro u94 h94
                intro u95 h95
                intro u96 h96
                intro u97 h97
                intro u98 h98
                intro u99 h99
                intro u100 h100
                intro u101 h101
                intro u102 h102
                intro u103 h103
                intro u104 h104
                intro u105 h105
                intro u106 h106
                intro u107 h107
                intro u108 h108
                have hl : u108 = .bool false := SM.get (tbl := (tb15s13 I l n m jj y xb pb g o cA w4.heap.size)) (k := .lit (.bool false)) (by kernel_rfl) h108
                subst hl
                have HKZ := Lib.hid (HKR.out.trans hC (fun _ _ h => h))
                clear hall h58 h59 h60 h61 h62 h63 h64 h65 h66 h67 h68 h69 h70 h71 h72 h73 h74 h75 h76 h77 h78 h79 h80 h81 h82 h83 h84 h85 h86 h87 h88 h89 h90 h91 h92 h93 h94 h95 h96 h97 h98 h99 h100 h101 h102 h103 h104 h105 h106 h107
                simp only [EndsP]
                go_simp
                go_wp2_with fail
                go_roundw
                case rel => exact ⟨jj + 1 + 1, by go_num, by omega, HKZ⟩
                case measure => simp [intOf]; omega
          · obtain rfl : i = (obdL (pksN I l) (n : Int)).length := by omega
            have hge : ¬ ((obdL (pksN I l) (n : Int)).length : Int) < ((obdL (pksN I l) (n : Int)).length : Int) := by omega
            clear hlt hi
            have HKR1 := HKR
            clear HWR HKR
            go_wp2_with fail
            go_loopw [12] (fun v12 wr => ∃ i : Nat, v12 = .int .i64 (i : Int) ∧ i ≤ (obrL (pksN I l) (n : Int)).length ∧ Hid (Kept (fun _ => False) w6 wr)) (fun v12 _ => (obrL (pksN I l) (n : Int)).length - (intOf v12).toNat)
            case atStart => exact ⟨0, rfl, Nat.zero_le _, HKR1⟩
            case round =>
              obtain ⟨i, rfl, hi, HKR⟩ := hrel
              rename World => wr
              have HWR := Lib.hid (HW6.out.trans HKR.out (fun _ _ h => h))
              by_cases hlt : i < (obrL (pksN I l) (n : Int)).length
              · have hi0 : (0 : Int) ≤ (i : Int) := by omega
                have hiI : (i : Int) < ((obrL (pksN I l) (n : Int)).length : Int) := by omega
                obtain ⟨x, hx⟩ : ∃ x, (obrL (pksN I l) (n : Int))[i]? = some x := ⟨_, List.getElem?_eq_getElem hlt⟩
                obtain ⟨m, rfl, hmP, hob⟩ := obr_at13 hx
                obtain ⟨q, hq⟩ : ∃ q, (pksN I l)[m]? = some q := ⟨_, List.getElem?_eq_getElem hmP⟩
                have HQM := Lib.hid hq
                have HIN := Lib.hid (obd_mem13 HNL.out hob)
                skip
                have hm0 : (0 : Int) ≤ (m : Int) := by omega
                have hmI : (m : Int) < ((pksN I l).length : Int) := by omega
                have hn0' : ¬ (m : Int) < 0 := by omega
                have hge' : ¬ ((pksN I l).length : Int) ≤ (m : Int) := by omega
                obtain ⟨a', c', e1, h1⟩ := HB.out.kept HKR.out
                injection e1 with e1 _ e3
                subst e1 e3
                obtain ⟨g, o, rfl, hg, cx⟩ := h1 i (m : Int) hx
                cases i with
                | zero =>
                  have hiI0 : (0 : Int) < ((obrL (pksN I l) (n : Int)).length : Int) := by omega
                  have HCX := Lib.hid (And.intro hg (show wr.cell? ⟨g, o, none⟩ = some (.int .i64 (m : Int)) from cx))
                  clear hx hmP hob hq h1 hg cx
                  go_wp2_with fail
                  refine wp_region_inv (SM (tb20z13 I l n m 0 0 xb pb g o cB w4.heap.size)) (fun w1 w2 => Kept (fun _ => False) w1 w2) (fun _ w' => Kept (fun _ => False) wr w') (by kernel_rfl) (by kernel_rfl) (Kept.refl (fun _ => False) wr).drew (fun j w1 w2 v h hs => SM.kept (tb20z13 I l n m 0 0 xb pb g o cB w4.heap.size) j w1 w2 v h hs) ⟨OpOK.plain rfl ?r0, OpOK.plain rfl ?r1, OpOK.plain rfl ?r2, OpOK.no14 (g := 2) (d := 117) (b := true) rfl (by kernel_rfl) (by kernel_rfl) (by kernel_rfl) (by kernel_rfl), OpOK.no14 (g := 2) (d := 117) (b := true) rfl (by kernel_rfl) (by kernel_rfl) (by kernel_rfl) (by kernel_rfl), OpOK.no14 (g := 2) (d := 117) (b := true) rfl (by kernel_rfl) (by kernel_rfl) (by kernel_rfl) (by kernel_rfl), OpOK.no14 (g := 2) (d := 117) (b := true) rfl (by kernel_rfl) (by kernel_rfl) (by kernel_rfl) (by kernel_rfl), OpOK.no14 (g := 2) (d := 117) (b := true) rfl (by kernel_rfl) (by kernel_rfl) (by kernel_rfl) (by kernel_rfl), OpOK.no14 (g := 2) (d := 117) (b := true) rfl (by kernel_rfl) (by kernel_rfl) (by kernel_rfl) (by kernel_rfl), OpOK.no14 (g := 2) (d := 117) (b := true) rfl (by kernel_rfl) (by kernel_rfl) (by kernel_rfl) (by kernel_rfl), OpOK.no14 (g := 2) (d := 117) (b := true) rfl (by kernel_rfl) (by kernel_rfl) (by kernel_rfl) (by kernel_rfl), OpOK.no14 (g := 2) (d := 117) (b := true) rfl (by kernel_rfl) (by kernel_rfl) (by kernel_rfl) (by kernel_rfl), OpOK.no14 (g := 2) (d := 117) (b := true) rfl (by kernel_rfl) (by kernel_rfl) (by kernel_rfl) (by kernel_rfl), OpOK.plain rfl ?r13, OpOK.plain rfl ?r14, OpOK.yes (g := 14) (d := 129) (b := false) rfl (by kernel_rfl) (by kernel_rfl) (SM.gd (by kernel_rfl)) ?r15, OpOK.yes (g := 14) (d := 129) (b := false) rfl (by kernel_rfl) (by kernel_rfl) (SM.gd (by kernel_rfl)) ?r16, OpOK.yes (g := 14) (d := 129) (b := false) rfl (by kernel_rfl) (by kernel_rfl) (SM.gd (by kernel_rfl)) ?r17, OpOK.yes (g := 14) (d := 129) (b := false) rfl (by kernel_rfl) (by kernel_rfl) (SM.gd (by kernel_rfl)) ?r18, OpOK.yes (g := 14) (d := 129) (b := false) rfl (by kernel_rfl) (by kernel_rfl) (SM.gd (by kernel_rfl)) ?r19, OpOK.plain rfl ?r20, OpOK.plain rfl ?r21, OpOK.yes (g := 21) (d := 136) (b := false) rfl (by kernel_rfl) (by kernel_rfl) (SM.gd (by kernel_rfl)) ?r22, OpOK.yes (g := 21) (d := 136) (b := false) rfl (by kernel_rfl) (by kernel_rfl) (SM.gd (by kernel_rfl)) ?r23, OpOK.yes (g := 21) (d := 136) (b := false) rfl (by kernel_rfl) (by kernel_rfl) (SM.gd (by kernel_rfl)) ?r24, OpOK.yes (g := 21) (d := 136) (b := false) rfl (by kernel_rfl) (by kernel_rfl) (SM.gd (by kernel_rfl)) ?r25, OpOK.yes (g := 21) (d := 136) (b := false) rfl (by kernel_rfl) (by kernel_rfl) (SM.gd (by kernel_rfl)) ?r26, OpOK.yes (g := 21) (d := 136) (b := false) rfl (by kernel_rfl) (by kernel_rfl) (SM.gd (by kernel_rfl)) ?r27, OpOK.yes (g := 21) (d := 136) (b := false) rfl (by kernel_rfl) (by kernel_rfl) (SM.gd (by kernel_rfl)) ?r28, OpOK.plain rfl ?r29, OpOK.plain rfl ?r30, OpOK.yes (g := 30) (d := 145) (b := false) rfl (by kernel_rfl) (by kernel_rfl) (SM.gd (by kernel_rfl)) ?r31, OpOK.yes (g := 30) (d := 145) (b := false) rfl (by kernel_rfl) (by kernel_rfl) (SM.gd (by kernel_rfl)) ?r32, OpOK.yes (g := 30) (d := 145) (b := false) rfl (by kernel_rfl) (by kernel_rfl) (SM.gd (by kernel_rfl)) ?r33, OpOK.yes (g := 30) (d := 145) (b := false) rfl (by kernel_rfl) (by kernel_rfl) (SM.gd (by kernel_rfl)) ?r34, OpOK.yes (g := 30) (d := 145) (b := false) rfl (by kernel_rfl) (by kernel_rfl) (SM.gd (by kernel_rfl)) ?r35, OpOK.yes (g := 30) (d := 145) (b := false) rfl (by kernel_rfl) (by kernel_rfl) (SM.gd (by kernel_rfl)) ?r36, OpOK.yes (g := 30) (d := 145) (b := false) rfl (by kernel_rfl) (by kernel_rfl) (SM.gd (by kernel_rfl)) ?r37, OpOK.yes (g := 30) (d := 145) (b := false) rfl (by kernel_rfl) (by kernel_rfl) (SM.gd (by kernel_rfl)) ?r38, OpOK.yes (g := 30) (d := 145) (b := false) rfl (by kernel_rfl) (by kernel_rfl) (SM.gd (by kernel_rfl)) ?r39, OpOK.plain rfl ?r40, trivial⟩ ?rend
                  case r0 =>
                    intro ls a wz hC hz hnew hwait hs hd K hK
                    obtain ⟨t12, t12'⟩ := tmp_both (hs 12 _ (by kernel_rfl) rfl)
                    clear hs hd
                    go_simp
                    exact hK _ _ (Kept.refl (fun _ => False) wz) hC (fun _ => SM.pl (by kernel_rfl))
                  case r1 =>
                    intro ls a wz hC hz hnew hwait hs hd K hK
                    obtain ⟨d0, d0'⟩ := SM.lt (.int .i64 0) (hd 0 115 (by kernel_rfl) (by kernel_rfl)) (by kernel_rfl)
                    clear hs hd
                    go_simp
                    exact hK _ _ (Kept.refl (fun _ => False) wz) hC (fun _ => SM.pl (by kernel_rfl))
                  case r2 =>
                    intro ls a wz hC hz hnew hwait hs hd K hK
                    obtain ⟨d1, d1'⟩ := SM.lt (.bool false) (hd 1 116 (by kernel_rfl) (by kernel_rfl)) (by kernel_rfl)
                    clear hs hd
                    go_simp
                    exact hK _ _ (Kept.refl (fun _ => False) wz) hC (fun _ => SM.pl (by kernel_rfl))
                  case r13 =>
                    intro ls a wz hC hz hnew hwait hs hd K hK
                    obtain ⟨d2, d2'⟩ := SM.lt (.bool false) (hd 2 117 (by kernel_rfl) (by kernel_rfl)) (by kernel_rfl)
                    clear hs hd
                    go_simp
                    exact hK _ _ (Kept.refl (fun _ => False) wz) hC (fun _ => SM.pl (by kernel_rfl))
                  case r14 =>
                    intro ls a wz hC hz hnew hwait hs hd K hK
                    obtain ⟨d13, d13'⟩ := SM.lt (.bool false) (hd 13 128 (by kernel_rfl) (by kernel_rfl)) (by kernel_rfl)
                    clear hs hd
                    go_simp
                    exact hK _ _ (Kept.refl (fun _ => False) wz) hC (fun _ => SM.pl (by kernel_rfl))
                  case r15 =>
                    intro ls a wz hC hz hnew hwait hs hd K hK
                    obtain ⟨t10, t10'⟩ := tmp_both (hs 10 _ (by kernel_rfl) rfl)
                    clear hs hd
                    go_simp
                    exact hK _ _ (Kept.refl (fun _ => False) wz) hC (fun _ => SM.pl (by kernel_rfl))
                  case r16 =>
                    intro ls a wz hC hz hnew hwait hs hd K hK
                    obtain ⟨t12, t12'⟩ := tmp_both (hs 12 _ (by kernel_rfl) rfl)
                    clear hs hd
                    go_simp
                    exact hK _ _ (Kept.refl (fun _ => False) wz) hC (fun _ => SM.pl (by kernel_rfl))
                  case r17 =>
                    intro ls a wz hC hz hnew hwait hs hd K hK
                    obtain ⟨d15, d15'⟩ := SM.lt (.slice (some ⟨g, o, none⟩) (obrL (pksN I l) (n : Int)).length cB) (hd 15 130 (by kernel_rfl) (by kernel_rfl)) (by kernel_rfl)
                    obtain ⟨d16, d16'⟩ := SM.lt (.int .i64 0) (hd 16 131 (by kernel_rfl) (by kernel_rfl)) (by kernel_rfl)
                    clear hs hd
                    go_simp
                    exact hK _ _ (Kept.refl (fun _ => False) wz) hC (fun _ => SM.pl (by kernel_rfl))
                  case r18 =>
                    intro ls a wz hC hz hnew hwait hs hd K hK
                    obtain ⟨d17, d17'⟩ := SM.lt (.pointer (some ⟨g, o, none⟩)) (hd 17 132 (by kernel_rfl) (by kernel_rfl)) (by kernel_rfl)
                    have ka := (hC.cell (p := ⟨g, o, none⟩) HCX.out.1 (fun h => h)).trans HCX.out.2
                    clear hs hd
                    go_simp
                    exact hK _ _ (Kept.refl (fun _ => False) wz) hC (fun _ => SM.pl (by kernel_rfl))
                  case r19 =>
                    intro ls a wz hC hz hnew hwait hs hd K hK
                    obtain ⟨d18, d18'⟩ := SM.lt (.int .i64 (m : Int)) (hd 18 133 (by kernel_rfl) (by kernel_rfl)) (by kernel_rfl)
                    clear hs hd
                    go_simp
                    exact hK _ _ (Kept.refl (fun _ => False) wz) hC (fun _ => SM.mk (tbl := (tb20z13 I l n m 0 0 xb pb g o cB w4.heap.size)) (k := .lit (.bool false)) (by kernel_rfl) (by first | rfl | (unfold KdMS; congr 1; first | exact decide_eq_false (by omega) | exact IntWalk.i64_in _ ⟨by omega, by omega⟩)))
                  case r20 =>
                    intro ls a wz hC hz hnew hwait hs hd K hK
                    obtain ⟨d14, d14'⟩ := SM.lt (.bool false) (hd 14 129 (by kernel_rfl) (by kernel_rfl)) (by kernel_rfl)
                    obtain ⟨d19, d19'⟩ := SM.lt (.bool false) (hd 19 134 (by kernel_rfl) (by kernel_rfl)) (by kernel_rfl)
                    clear hs hd
                    go_simp
                    exact hK _ _ (Kept.refl (fun _ => False) wz) hC (fun _ => SM.pl (by kernel_rfl))
                  case r21 =>
                    intro ls a wz hC hz hnew hwait hs hd K hK
                    obtain ⟨d20, d20'⟩ := SM.lt (.bool false) (hd 20 135 (by kernel_rfl) (by kernel_rfl)) (by kernel_rfl)
                    clear hs hd
                    go_simp
                    exact hK _ _ (Kept.refl (fun _ => False) wz) hC (fun _ => SM.pl (by kernel_rfl))
                  case r22 =>
                    intro ls a wz hC hz hnew hwait hs hd K hK
                    obtain ⟨t10, t10'⟩ := tmp_both (hs 10 _ (by kernel_rfl) rfl)
                    clear hs hd
                    go_simp
                    exact hK _ _ (Kept.refl (fun _ => False) wz) hC (fun _ => SM.pl (by kernel_rfl))
                  case r23 =>
                    intro ls a wz hC hz hnew hwait hs hd K hK
                    obtain ⟨t12, t12'⟩ := tmp_both (hs 12 _ (by kernel_rfl) rfl)
                    clear hs hd
                    go_simp
                    exact hK _ _ (Kept.refl (fun _ => False) wz) hC (fun _ => SM.pl (by kernel_rfl))
                  case r24 =>
                    intro ls a wz hC hz hnew hwait hs hd K hK
                    obtain ⟨d22, d22'⟩ := SM.lt (.slice (some ⟨g, o, none⟩) (obrL (pksN I l) (n : Int)).length cB) (hd 22 137 (by kernel_rfl) (by kernel_rfl)) (by kernel_rfl)
                    obtain ⟨d23, d23'⟩ := SM.lt (.int .i64 0) (hd 23 138 (by kernel_rfl) (by kernel_rfl)) (by kernel_rfl)
                    clear hs hd
                    go_simp
                    exact hK _ _ (Kept.refl (fun _ => False) wz) hC (fun _ => SM.pl (by kernel_rfl))
                  case r25 =>
                    intro ls a wz hC hz hnew hwait hs hd K hK
                    obtain ⟨d24, d24'⟩ := SM.lt (.pointer (some ⟨g, o, none⟩)) (hd 24 139 (by kernel_rfl) (by kernel_rfl)) (by kernel_rfl)
                    have ka := (hC.cell (p := ⟨g, o, none⟩) HCX.out.1 (fun h => h)).trans HCX.out.2
                    clear hs hd
                    go_simp
                    exact hK _ _ (Kept.refl (fun _ => False) wz) hC (fun _ => SM.pl (by kernel_rfl))
                  case r26 =>
                    intro ls a wz hC hz hnew hwait hs hd K hK
                    obtain ⟨t6, t6'⟩ := tmp_both (hs 6 _ (by kernel_rfl) rfl)
                    clear hs hd
                    go_simp
                    exact hK _ _ (Kept.refl (fun _ => False) wz) hC (fun _ => SM.pl (by kernel_rfl))
                  case r27 =>
                    intro ls a wz hC hz hnew hwait hs hd K hK
                    obtain ⟨d26, d26'⟩ := SM.lt (.pointer (some ⟨pb, 0, none⟩)) (hd 26 141 (by kernel_rfl) (by kernel_rfl)) (by kernel_rfl)
                    clear hs hd
                    go_simp
                    refine (HT1.out wz (HWR.out.trans hC (fun _ _ h => h))).mono ?_
                    rintro e wv ⟨rfl, hkv⟩
                    exact hK _ _ hkv (hC.trans hkv (fun _ _ h => h)) (fun _ => SM.mk (tbl := (tb20z13 I l n m 0 0 xb pb g o cB w4.heap.size)) (k := .lit (.int .i64 ((pksN I l).length : Int))) (by kernel_rfl) rfl)
                  case r28 =>
                    intro ls a wz hC hz hnew hwait hs hd K hK
                    obtain ⟨d25, d25'⟩ := SM.lt (.int .i64 (m : Int)) (hd 25 140 (by kernel_rfl) (by kernel_rfl)) (by kernel_rfl)
                    obtain ⟨d27, d27'⟩ := SM.lt (.int .i64 ((pksN I l).length : Int)) (hd 27 142 (by kernel_rfl) (by kernel_rfl)) (by kernel_rfl)
                    clear hs hd
                    go_simp
                    exact hK _ _ (Kept.refl (fun _ => False) wz) hC (fun _ => SM.mk (tbl := (tb20z13 I l n m 0 0 xb pb g o cB w4.heap.size)) (k := .lit (.bool false)) (by kernel_rfl) (by first | rfl | (unfold KdMS; congr 1; first | exact decide_eq_false (by omega) | exact IntWalk.i64_in _ ⟨by omega, by omega⟩)))
                  case r29 =>
                    intro ls a wz hC hz hnew hwait hs hd K hK
                    obtain ⟨d21, d21'⟩ := SM.lt (.bool false) (hd 21 136 (by kernel_rfl) (by kernel_rfl)) (by kernel_rfl)
                    obtain ⟨d28, d28'⟩ := SM.lt (.bool false) (hd 28 143 (by kernel_rfl) (by kernel_rfl)) (by kernel_rfl)
                    clear hs hd
                    go_simp
                    exact hK _ _ (Kept.refl (fun _ => False) wz) hC (fun _ => SM.pl (by kernel_rfl))
                  case r30 =>
                    intro ls a wz hC hz hnew hwait hs hd K hK
                    obtain ⟨d29, d29'⟩ := SM.lt (.bool false) (hd 29 144 (by kernel_rfl) (by kernel_rfl)) (by kernel_rfl)
                    clear hs hd
                    go_simp
                    exact hK _ _ (Kept.refl (fun _ => False) wz) hC (fun _ => SM.pl (by kernel_rfl))
                  case r31 =>
                    intro ls a wz hC hz hnew hwait hs hd K hK
                    obtain ⟨t5, t5'⟩ := tmp_both (hs 5 _ (by kernel_rfl) rfl)
                    clear hs hd
                    go_simp
                    exact hK _ _ (Kept.refl (fun _ => False) wz) hC (fun _ => SM.pl (by kernel_rfl))
                  case r32 =>
                    intro ls a wz hC hz hnew hwait hs hd K hK
                    obtain ⟨t10, t10'⟩ := tmp_both (hs 10 _ (by kernel_rfl) rfl)
                    clear hs hd
                    go_simp
                    exact hK _ _ (Kept.refl (fun _ => False) wz) hC (fun _ => SM.pl (by kernel_rfl))
                  case r33 =>
                    intro ls a wz hC hz hnew hwait hs hd K hK
                    obtain ⟨t12, t12'⟩ := tmp_both (hs 12 _ (by kernel_rfl) rfl)
                    clear hs hd
                    go_simp
                    exact hK _ _ (Kept.refl (fun _ => False) wz) hC (fun _ => SM.pl (by kernel_rfl))
                  case r34 =>
                    intro ls a wz hC hz hnew hwait hs hd K hK
                    obtain ⟨d32, d32'⟩ := SM.lt (.slice (some ⟨g, o, none⟩) (obrL (pksN I l) (n : Int)).length cB) (hd 32 147 (by kernel_rfl) (by kernel_rfl)) (by kernel_rfl)
                    obtain ⟨d33, d33'⟩ := SM.lt (.int .i64 0) (hd 33 148 (by kernel_rfl) (by kernel_rfl)) (by kernel_rfl)
                    clear hs hd
                    go_simp
                    exact hK _ _ (Kept.refl (fun _ => False) wz) hC (fun _ => SM.pl (by kernel_rfl))
                  case r35 =>
                    intro ls a wz hC hz hnew hwait hs hd K hK
                    obtain ⟨d34, d34'⟩ := SM.lt (.pointer (some ⟨g, o, none⟩)) (hd 34 149 (by kernel_rfl) (by kernel_rfl)) (by kernel_rfl)
                    have ka := (hC.cell (p := ⟨g, o, none⟩) HCX.out.1 (fun h => h)).trans HCX.out.2
                    clear hs hd
                    go_simp
                    exact hK _ _ (Kept.refl (fun _ => False) wz) hC (fun _ => SM.pl (by kernel_rfl))
                  case r36 =>
                    intro ls a wz hC hz hnew hwait hs hd K hK
                    obtain ⟨d31, d31'⟩ := SM.lt (.pointer (some ⟨xb, 0, none⟩)) (hd 31 146 (by kernel_rfl) (by kernel_rfl)) (by kernel_rfl)
                    obtain ⟨d35, d35'⟩ := SM.lt (.int .i64 (m : Int)) (hd 35 150 (by kernel_rfl) (by kernel_rfl)) (by kernel_rfl)
                    clear hs hd
                    go_simp
                    refine (obsoleted13_walk (HI.out.quiet (HWR.out.trans hC (fun _ _ h => h))) HOK.out.fits HLN.out HOK.out.e1 m q HQM.out (names_few13 (HOK.out.may q (List.mem_of_getElem? HQM.out))).2).mono ?_
                    rintro e wv ⟨⟨v', rfl, ho⟩, hkv⟩
                    have ho' := own_less13 ho (b := w4.heap.size) (HWR.out.trans hC (fun _ _ h => h)).size
                    exact hK _ _ hkv (hC.trans hkv (fun _ _ h => h)) (fun _ => SM.mk (tbl := (tb20z13 I l n m 0 0 xb pb g o cB w4.heap.size)) (k := .own (w4.heap.size) ((obdL (pksN I l) (m : Int)))) (by kernel_rfl) ho')
                  case r37 =>
                    intro ls a wz hC hz hnew hwait hs hd K hK
                    obtain ⟨t8, t8'⟩ := tmp_both (hs 8 _ (by kernel_rfl) rfl)
                    clear hs hd
                    go_simp
                    exact hK _ _ (Kept.refl (fun _ => False) wz) hC (fun _ => SM.pl (by kernel_rfl))
                  case r38 =>
                    intro ls a wz hC hz hnew hwait hs hd K hK
                    obtain ⟨v36, d36, hv36⟩ := hd 36 151 (by kernel_rfl) (by kernel_rfl)
                    have hq36 : wz.ownsInts (w4.heap.size) 3 .i64 v36 ((obdL (pksN I l) (m : Int))) := SM.get (k := .own (w4.heap.size) ((obdL (pksN I l) (m : Int)))) (by kernel_rfl) hv36
                    obtain ⟨ao36, cp36, e36⟩ := own_form hq36.1
                    subst e36
                    obtain ⟨-, d36'⟩ := tmp_both d36
                    clear hv36
                    obtain ⟨d37, d37'⟩ := SM.lt (.int .i64 (n : Int)) (hd 37 152 (by kernel_rfl) (by kernel_rfl)) (by kernel_rfl)
                    clear hs hd
                    go_simp
                    have h := in13_walk _ (obdL (pksN I l) (m : Int)) (n : Int) wz (ints_of_own hq36) (by have h1 := obd_len13 (pksN I l) m; have h2 := HOK.out.few; omega)
                    rw [HIN.out] at h
                    refine h.mono ?_
                    rintro e wv ⟨rfl, hkv⟩
                    exact hK _ _ hkv (hC.trans hkv (fun _ _ h => h)) (fun _ => SM.mk (tbl := (tb20z13 I l n m 0 0 xb pb g o cB w4.heap.size)) (k := .lit (.bool true)) (by kernel_rfl) rfl)
                  case r39 =>
                    intro ls a wz hC hz hnew hwait hs hd K hK
                    obtain ⟨d38, d38'⟩ := SM.lt (.bool true) (hd 38 153 (by kernel_rfl) (by kernel_rfl)) (by kernel_rfl)
                    clear hs hd
                    go_simp
                    exact hK _ _ (Kept.refl (fun _ => False) wz) hC (fun _ => SM.pl (by kernel_rfl))
                  case r40 =>
                    intro ls a wz hC hz hnew hwait hs hd K hK
                    obtain ⟨d30, d30'⟩ := SM.lt (.bool false) (hd 30 145 (by kernel_rfl) (by kernel_rfl)) (by kernel_rfl)
                    obtain ⟨d39, d39'⟩ := SM.lt (.bool false) (hd 39 154 (by kernel_rfl) (by kernel_rfl)) (by kernel_rfl)
                    clear hs hd
                    go_simp
                    exact hK _ _ (Kept.refl (fun _ => False) wz) hC (fun _ => SM.pl (by kernel_rfl))
                  case rend =>
                    intro ls wz hall hC
                    intro u115 h115
                    intro u116 h116
                    intro u117 h117
                    intro u118 h118
                    intro u119 h119
                    intro u120 h120
                    intro u121 h121
                    intro u122 h122
                    intro u123 h123
                    intro u124 h124
                    intro u125 h125
                    intro u126 h126
                    intro u127 h127
                    intro u128 h128
                    intro u129 h129
                    intro u130 h130
                    intro u131 h131
                    intro u132 h132
                    intro u133 h133
                    intro u134 h134
                    intro u135 h135
                    intro u136 h136
                    intro u137 h137
                    intro u138 h138
                    intro u139 h139
                    intro u140 h140
                    intro u141 h141
                    intro u142 h142
                    intro u143 h143
                    intro u144 h144
                    intro u145 h145
                    intro u146 h146
                    intro u147 h147
                    intro u148 h148
                    intro u149 h149
                    intro u150 h150
                    intro u151 h151
                    intro u152 h152
                    intro u153 h153
                    intro u154 h154
                    intro u155 h155
                    have hl : u155 = .bool false := SM.get (tbl := (tb20z13 I l n m 0 0 xb pb g o cB w4.heap.size)) (k := .lit (.bool false)) (by kernel_rfl) h155
                    subst hl
                    have HKZ := Lib.hid (HKR.out.trans hC (fun _ _ h => h))
                    clear hall h115 h116 h117 h118 h119 h120 h121 h122 h123 h124 h125 h126 h127 h128 h129 h130 h131 h132 h133 h134 h135 h136 h137 h138 h139 h140 h141 h142 h143 h144 h145 h146 h147 h148 h149 h150 h151 h152 h153 h154
                    simp only [EndsP]
                    go_simp
                    go_wp2_with fail
                    go_roundw
                    case rel => exact ⟨1, by go_num, by omega, HKZ⟩
                    case measure => simp [intOf]; omega
                | succ jj =>
                  obtain ⟨y, hy⟩ : ∃ y, (obrL (pksN I l) (n : Int))[jj]? = some y := ⟨_, List.getElem?_eq_getElem (by omega)⟩
                  have hxy : y < (m : Int) := by
                    have h2 := List.pairwise_iff_getElem.1 (obr_rise13 (pksN I l) n) jj (jj + 1) (by omega) hlt (by omega)
                    rw [List.getElem?_eq_getElem hlt] at hx
                    rw [List.getElem?_eq_getElem (by omega)] at hy
                    injection hx with hx
                    injection hy with hy
                    rw [← hx, ← hy]
                    exact h2
                  obtain ⟨g2, o2, e2, _, cy⟩ := h1 jj y hy
                  injection e2 with e2
                  injection e2 with e2 e4 _
                  subst e2 e4
                  have HCX := Lib.hid (And.intro hg cx)
                  have HCY := Lib.hid (And.intro hg cy)
                  have hnle : ¬ (m : Int) ≤ y := by omega
                  have hjw : IntKind.i64.wrap (((jj + 1 : Nat) : Int) - 1) = (jj : Int) := by
                    have h3 := obr_len13 (pksN I l) n
                    have h4 := HOK.out.few
                    rw [IntWalk.i64_in _ ⟨by omega, by omega⟩]; omega
                  have hj00 : (0 : Int) ≤ (jj : Int) := by omega
                  have hjI2 : (jj : Int) < ((obrL (pksN I l) (n : Int)).length : Int) := by omega
                  have hgt : (0 : Int) < ((jj + 1 : Nat) : Int) := by omega
                  have hjb : jj + 1 < 1000 := by
                    have h3 := obr_len13 (pksN I l) n
                    have h4 := HOK.out.few
                    omega
                  clear hx hy hmP hob hq h1 hg cx cy hxy
                  go_wp2_with fail
                  refine wp_region_inv (SM (tb20s13 I l n m jj y xb pb g o cB w4.heap.size)) (fun w1 w2 => Kept (fun _ => False) w1 w2) (fun _ w' => Kept (fun _ => False) wr w') (by kernel_rfl) (by kernel_rfl) (Kept.refl (fun _ => False) wr).drew (fun j w1 w2 v h hs => SM.kept (tb20s13 I l n m jj y xb pb g o cB w4.heap.size) j w1 w2 v h hs) ⟨OpOK.plain rfl ?r0, OpOK.plain rfl ?r1, OpOK.plain rfl ?r2, OpOK.yes (g := 2) (d := 117) (b := true) rfl (by kernel_rfl) (by kernel_rfl) (SM.gd (by kernel_rfl)) ?r3, OpOK.yes (g := 2) (d := 117) (b := true) rfl (by kernel_rfl) (by kernel_rfl) (SM.gd (by kernel_rfl)) ?r4, OpOK.yes (g := 2) (d := 117) (b := true) rfl (by kernel_rfl) (by kernel_rfl) (SM.gd (by kernel_rfl)) ?r5, OpOK.yes (g := 2) (d := 117) (b := true) rfl (by kernel_rfl) (by kernel_rfl) (SM.gd (by kernel_rfl)) ?r6, OpOK.yes (g := 2) (d := 117) (b := true) rfl (by kernel_rfl) (by kernel_rfl) (SM.gd (by kernel_rfl)) ?r7, OpOK.yes (g := 2) (d := 117) (b := true) rfl (by kernel_rfl) (by kernel_rfl) (SM.gd (by kernel_rfl)) ?r8, OpOK.yes (g := 2) (d := 117) (b := true) rfl (by kernel_rfl) (by kernel_rfl) (SM.gd (by kernel_rfl)) ?r9, OpOK.yes (g := 2) (d := 117) (b := true) rfl (by kernel_rfl) (by kernel_rfl) (SM.gd (by kernel_rfl)) ?r10, OpOK.yes (g := 2) (d := 117) (b := true) rfl (by kernel_rfl) (by kernel_rfl) (SM.gd (by kernel_rfl)) ?r11, OpOK.yes (g := 2) (d := 117) (b := true) rfl (by kernel_rfl) (by kernel_rfl) (SM.gd (by kernel_rfl)) ?r12, OpOK.plain rfl ?r13, OpOK.plain rfl ?r14, OpOK.yes (g := 14) (d := 129) (b := false) rfl (by kernel_rfl) (by kernel_rfl) (SM.gd (by kernel_rfl)) ?r15, OpOK.yes (g := 14) (d := 129) (b := false) rfl (by kernel_rfl) (by kernel_rfl) (SM.gd (by kernel_rfl)) ?r16, OpOK.yes (g := 14) (d := 129) (b := false) rfl (by kernel_rfl) (by kernel_rfl) (SM.gd (by kernel_rfl)) ?r17, OpOK.yes (g := 14) (d := 129) (b := false) rfl (by kernel_rfl) (by kernel_rfl) (SM.gd (by kernel_rfl)) ?r18, OpOK.yes (g := 14) (d := 129) (b := false) rfl (by kernel_rfl) (by kernel_rfl) (SM.gd (by kernel_rfl)) ?r19, OpOK.plain rfl ?r20, OpOK.plain rfl ?r21, OpOK.yes (g := 21) (d := 136) (b := false) rfl (by kernel_rfl) (by kernel_rfl) (SM.gd (by kernel_rfl)) ?r22, OpOK.yes (g := 21) (d := 136) (b := false) rfl (by kernel_rfl) (by kernel_rfl) (SM.gd (by kernel_rfl)) ?r23, OpOK.yes (g := 21) (d := 136) (b := false) rfl (by kernel_rfl) (by kernel_rfl) (SM.gd (by kernel_rfl)) ?r24, OpOK.yes (g := 21) (d := 136) (b := false) rfl (by kernel_rfl) (by kernel_rfl) (SM.gd (by kernel_rfl)) ?r25, OpOK.yes (g := 21) (d := 136) (b := false) rfl (by kernel_rfl) (by kernel_rfl) (SM.gd (by kernel_rfl)) ?r26, OpOK.yes (g := 21) (d := 136) (b := false) rfl (by kernel_rfl) (by kernel_rfl) (SM.gd (by kernel_rfl)) ?r27, OpOK.yes (g := 21) (d := 136) (b := false) rfl (by kernel_rfl) (by kernel_rfl) (SM.gd (by kernel_rfl)) ?r28, OpOK.plain rfl ?r29, OpOK.plain rfl ?r30, OpOK.yes (g := 30) (d := 145) (b := false) rfl (by kernel_rfl) (by kernel_rfl) (SM.gd (by kernel_rfl)) ?r31, OpOK.yes (g := 30) (d := 145) (b := false) rfl (by kernel_rfl) (by kernel_rfl) (SM.gd (by kernel_rfl)) ?r32, OpOK.yes (g := 30) (d := 145) (b := false) rfl (by kernel_rfl) (by kernel_rfl) (SM.gd (by kernel_rfl)) ?r33, OpOK.yes (g := 30) (d := 145) (b := false) rfl (by kernel_rfl) (by kernel_rfl) (SM.gd (by kernel_rfl)) ?r34, OpOK.yes (g := 30) (d := 145) (b := false) rfl (by kernel_rfl) (by kernel_rfl) (SM.gd (by kernel_rfl)) ?r35, OpOK.yes (g := 30) (d := 145) (b := false) rfl (by kernel_rfl) (by kernel_rfl) (SM.gd (by kernel_rfl)) ?r36, OpOK.yes (g := 30) (d := 145) (b := false) rfl (by kernel_rfl) (by kernel_rfl) (SM.gd (by kernel_rfl)) ?r37, OpOK.yes (g := 30) (d := 145) (b := false) rfl (by kernel_rfl) (by kernel_rfl) (SM.gd (by kernel_rfl)) ?r38, OpOK.yes (g := 30) (d := 145) (b := false) rfl (by kernel_rfl) (by kernel_rfl) (SM.gd (by kernel_rfl)) ?r39, OpOK.plain rfl ?r40, trivial⟩ ?rend
                  case r0 =>
                    intro ls a wz hC hz hnew hwait hs hd K hK
                    obtain ⟨t12, t12'⟩ := tmp_both (hs 12 _ (by kernel_rfl) rfl)
                    clear hs hd
                    go_simp
                    exact hK _ _ (Kept.refl (fun _ => False) wz) hC (fun _ => SM.pl (by kernel_rfl))
                  case r1 =>
                    intro ls a wz hC hz hnew hwait hs hd K hK
                    obtain ⟨d0, d0'⟩ := SM.lt (.int .i64 ((jj + 1 : Nat) : Int)) (hd 0 115 (by kernel_rfl) (by kernel_rfl)) (by kernel_rfl)
                    clear hs hd
                    go_simp
                    exact hK _ _ (Kept.refl (fun _ => False) wz) hC (fun _ => SM.pl (by kernel_rfl))
                  case r2 =>
                    intro ls a wz hC hz hnew hwait hs hd K hK
                    obtain ⟨d1, d1'⟩ := SM.lt (.bool true) (hd 1 116 (by kernel_rfl) (by kernel_rfl)) (by kernel_rfl)
                    clear hs hd
                    go_simp
                    exact hK _ _ (Kept.refl (fun _ => False) wz) hC (fun _ => SM.pl (by kernel_rfl))
                  case r3 =>
                    intro ls a wz hC hz hnew hwait hs hd K hK
                    obtain ⟨t10, t10'⟩ := tmp_both (hs 10 _ (by kernel_rfl) rfl)
                    clear hs hd
                    go_simp
                    exact hK _ _ (Kept.refl (fun _ => False) wz) hC (fun _ => SM.pl (by kernel_rfl))
                  case r4 =>
                    intro ls a wz hC hz hnew hwait hs hd K hK
                    obtain ⟨t12, t12'⟩ := tmp_both (hs 12 _ (by kernel_rfl) rfl)
                    clear hs hd
                    go_simp
                    exact hK _ _ (Kept.refl (fun _ => False) wz) hC (fun _ => SM.pl (by kernel_rfl))
                  case r5 =>
                    intro ls a wz hC hz hnew hwait hs hd K hK
                    obtain ⟨d3, d3'⟩ := SM.lt (.slice (some ⟨g, o, none⟩) (obrL (pksN I l) (n : Int)).length cB) (hd 3 118 (by kernel_rfl) (by kernel_rfl)) (by kernel_rfl)
                    obtain ⟨d4, d4'⟩ := SM.lt (.int .i64 ((jj + 1 : Nat) : Int)) (hd 4 119 (by kernel_rfl) (by kernel_rfl)) (by kernel_rfl)
                    clear hs hd
                    go_simp
                    exact hK _ _ (Kept.refl (fun _ => False) wz) hC (fun _ => SM.pl (by kernel_rfl))
                  case r6 =>
                    intro ls a wz hC hz hnew hwait hs hd K hK
                    obtain ⟨d5, d5'⟩ := SM.lt (.pointer (some ⟨g, o + (jj + 1), none⟩)) (hd 5 120 (by kernel_rfl) (by kernel_rfl)) (by kernel_rfl)
                    have ka := (hC.cell (p := ⟨g, o + (jj + 1), none⟩) HCX.out.1 (fun h => h)).trans HCX.out.2
                    clear hs hd
                    go_simp
                    exact hK _ _ (Kept.refl (fun _ => False) wz) hC (fun _ => SM.pl (by kernel_rfl))
                  case r7 =>
                    intro ls a wz hC hz hnew hwait hs hd K hK
                    obtain ⟨t10, t10'⟩ := tmp_both (hs 10 _ (by kernel_rfl) rfl)
                    clear hs hd
                    go_simp
                    exact hK _ _ (Kept.refl (fun _ => False) wz) hC (fun _ => SM.pl (by kernel_rfl))
                  case r8 =>
                    intro ls a wz hC hz hnew hwait hs hd K hK
                    obtain ⟨t12, t12'⟩ := tmp_both (hs 12 _ (by kernel_rfl) rfl)
                    clear hs hd
                    go_simp
                    exact hK _ _ (Kept.refl (fun _ => False) wz) hC (fun _ => SM.pl (by kernel_rfl))
                  case r9 =>
                    intro ls a wz hC hz hnew hwait hs hd K hK
                    obtain ⟨d8, d8'⟩ := SM.lt (.int .i64 ((jj + 1 : Nat) : Int)) (hd 8 123 (by kernel_rfl) (by kernel_rfl)) (by kernel_rfl)
                    clear hs hd
                    go_simp
                    exact hK _ _ (Kept.refl (fun _ => False) wz) hC (fun _ => SM.mk (tbl := (tb20s13 I l n m jj y xb pb g o cB w4.heap.size)) (k := .lit (.int .i64 (jj : Int))) (by kernel_rfl) (by first | rfl | (unfold KdMS; congr 1; first | exact decide_eq_false (by omega) | exact IntWalk.i64_in _ ⟨by omega, by omega⟩)))
                  case r10 =>
                    intro ls a wz hC hz hnew hwait hs hd K hK
                    obtain ⟨d7, d7'⟩ := SM.lt (.slice (some ⟨g, o, none⟩) (obrL (pksN I l) (n : Int)).length cB) (hd 7 122 (by kernel_rfl) (by kernel_rfl)) (by kernel_rfl)
                    obtain ⟨d9, d9'⟩ := SM.lt (.int .i64 (jj : Int)) (hd 9 124 (by kernel_rfl) (by kernel_rfl)) (by kernel_rfl)
                    clear hs hd
                    go_simp
                    exact hK _ _ (Kept.refl (fun _ => False) wz) hC (fun _ => SM.pl (by kernel_rfl))
                  case r11 =>
                    intro ls a wz hC hz hnew hwait hs hd K hK
                    obtain ⟨d10, d10'⟩ := SM.lt (.pointer (some ⟨g, o + jj, none⟩)) (hd 10 125 (by kernel_rfl) (by kernel_rfl)) (by kernel_rfl)
                    have kb := (hC.cell (p := ⟨g, o + jj, none⟩) HCY.out.1 (fun h => h)).trans HCY.out.2
                    clear hs hd
                    go_simp
                    exact hK _ _ (Kept.refl (fun _ => False) wz) hC (fun _ => SM.pl (by kernel_rfl))
                  case r12 =>
                    intro ls a wz hC hz hnew hwait hs hd K hK
                    obtain ⟨d6, d6'⟩ := SM.lt (.int .i64 (m : Int)) (hd 6 121 (by kernel_rfl) (by kernel_rfl)) (by kernel_rfl)
                    obtain ⟨d11, d11'⟩ := SM.lt (.int .i64 y) (hd 11 126 (by kernel_rfl) (by kernel_rfl)) (by kernel_rfl)
                    clear hs hd
                    go_simp
                    exact hK _ _ (Kept.refl (fun _ => False) wz) hC (fun _ => SM.mk (tbl := (tb20s13 I l n m jj y xb pb g o cB w4.heap.size)) (k := .lit (.bool false)) (by kernel_rfl) (by first | rfl | (unfold KdMS; congr 1; first | exact decide_eq_false (by omega) | exact IntWalk.i64_in _ ⟨by omega, by omega⟩)))
                  case r13 =>
                    intro ls a wz hC hz hnew hwait hs hd K hK
                    obtain ⟨d2, d2'⟩ := SM.lt (.bool true) (hd 2 117 (by kernel_rfl) (by kernel_rfl)) (by kernel_rfl)
                    obtain ⟨d12, d12'⟩ := SM.lt (.bool false) (hd 12 127 (by kernel_rfl) (by kernel_rfl)) (by kernel_rfl)
                    clear hs hd
                    go_simp
                    exact hK _ _ (Kept.refl (fun _ => False) wz) hC (fun _ => SM.pl (by kernel_rfl))
                  case r14 =>
                    intro ls a wz hC hz hnew hwait hs hd K hK
                    obtain ⟨d13, d13'⟩ := SM.lt (.bool false) (hd 13 128 (by kernel_rfl) (by kernel_rfl)) (by kernel_rfl)
                    clear hs hd
                    go_simp
                    exact hK _ _ (Kept.refl (fun _ => False) wz) hC (fun _ => SM.pl (by kernel_rfl))
                  case r15 =>
                    intro ls a wz hC hz hnew hwait hs hd K hK
                    obtain ⟨t10, t10'⟩ := tmp_both (hs 10 _ (by kernel_rfl) rfl)
                    clear hs hd
                    go_simp
                    exact hK _ _ (Kept.refl (fun _ => False) wz) hC (fun _ => SM.pl (by kernel_rfl))
                  case r16 =>
                    intro ls a wz hC hz hnew hwait hs hd K hK
                    obtain ⟨t12, t12'⟩ := tmp_both (hs 12 _ (by kernel_rfl) rfl)
                    clear hs hd
                    go_simp
                    exact hK _ _ (Kept.refl (fun _ => False) wz) hC (fun _ => SM.pl (by kernel_rfl))
                  case r17 =>
                    intro ls a wz hC hz hnew hwait hs hd K hK
                    obtain ⟨d15, d15'⟩ := SM.lt (.slice (some ⟨g, o, none⟩) (obrL (pksN I l) (n : Int)).length cB) (hd 15 130 (by kernel_rfl) (by kernel_rfl)) (by kernel_rfl)
                    obtain ⟨d16, d16'⟩ := SM.lt (.int .i64 ((jj + 1 : Nat) : Int)) (hd 16 131 (by kernel_rfl) (by kernel_rfl)) (by kernel_rfl)
                    clear hs hd
                    go_simp
                    exact hK _ _ (Kept.refl (fun _ => False) wz) hC (fun _ => SM.pl (by kernel_rfl))
                  case r18 =>
                    intro ls a wz hC hz hnew hwait hs hd K hK
                    obtain ⟨d17, d17'⟩ := SM.lt (.pointer (some ⟨g, o + (jj + 1), none⟩)) (hd 17 132 (by kernel_rfl) (by kernel_rfl)) (by kernel_rfl)
                    have ka := (hC.cell (p := ⟨g, o + (jj + 1), none⟩) HCX.out.1 (fun h => h)).trans HCX.out.2
                    clear hs hd
                    go_simp
                    exact hK _ _ (Kept.refl (fun _ => False) wz) hC (fun _ => SM.pl (by kernel_rfl))
                  case r19 =>
                    intro ls a wz hC hz hnew hwait hs hd K hK
                    obtain ⟨d18, d18'⟩ := SM.lt (.int .i64 (m : Int)) (hd 18 133 (by kernel_rfl) (by kernel_rfl)) (by kernel_rfl)
                    clear hs hd
                    go_simp
                    exact hK _ _ (Kept.refl (fun _ => False) wz) hC (fun _ => SM.mk (tbl := (tb20s13 I l n m jj y xb pb g o cB w4.heap.size)) (k := .lit (.bool false)) (by kernel_rfl) (by first | rfl | (unfold KdMS; congr 1; first | exact decide_eq_false (by omega) | exact IntWalk.i64_in _ ⟨by omega, by omega⟩)))
                  case r20 =>
                    intro ls a wz hC hz hnew hwait hs hd K hK
                    obtain ⟨d14, d14'⟩ := SM.lt (.bool false) (hd 14 129 (by kernel_rfl) (by kernel_rfl)) (by kernel_rfl)
                    obtain ⟨d19, d19'⟩ := SM.lt (.bool false) (hd 19 134 (by kernel_rfl) (by kernel_rfl)) (by kernel_rfl)
                    clear hs hd
                    go_simp
                    exact hK _ _ (Kept.refl (fun _ => False) wz) hC (fun _ => SM.pl (by kernel_rfl))
                  case r21 =>
                    intro ls a wz hC hz hnew hwait hs hd K hK
                    obtain ⟨d20, d20'⟩ := SM.lt (.bool false) (hd 20 135 (by kernel_rfl) (by kernel_rfl)) (by kernel_rfl)
                    clear hs hd
                    go_simp
                    exact hK _ _ (Kept.refl (fun _ => False) wz) hC (fun _ => SM.pl (by kernel_rfl))
                  case r22 =>
                    intro ls a wz hC hz hnew hwait hs hd K hK
                    obtain ⟨t10, t10'⟩ := tmp_both (hs 10 _ (by kernel_rfl) rfl)
                    clear hs hd
                    go_simp
                    exact hK _ _ (Kept.refl (fun _ => False) wz) hC (fun _ => SM.pl (by kernel_rfl))
                  case r23 =>
                    intro ls a wz hC hz hnew hwait hs hd K hK
                    obtain ⟨t12, t12'⟩ := tmp_both (hs 12 _ (by kernel_rfl) rfl)
                    clear hs hd
                    go_simp
                    exact hK _ _ (Kept.refl (fun _ => False) wz) hC (fun _ => SM.pl (by kernel_rfl))
                  case r24 =>
                    intro ls a wz hC hz hnew hwait hs hd K hK
                    obtain ⟨d22, d22'⟩ := SM.lt (.slice (some ⟨g, o, none⟩) (obrL (pksN I l) (n : Int)).length cB) (hd 22 137 (by kernel_rfl) (by kernel_rfl)) (by kernel_rfl)
                    obtain ⟨d23, d23'⟩ := SM.lt (.int .i64 ((jj + 1 : Nat) : Int)) (hd 23 138 (by kernel_rfl) (by kernel_rfl)) (by kernel_rfl)
                    clear hs hd
                    go_simp
                    exact hK _ _ (Kept.refl (fun _ => False) wz) hC (fun _ => SM.pl (by kernel_rfl))
                  case r25 =>
                    intro ls a wz hC hz hnew hwait hs hd K hK
                    obtain ⟨d24, d24'⟩ := SM.lt (.pointer (some ⟨g, o + (jj + 1), none⟩)) (hd 24 139 (by kernel_rfl) (by kernel_rfl)) (by kernel_rfl)
                    have ka := (hC.cell (p := ⟨g, o + (jj + 1), none⟩) HCX.out.1 (fun h => h)).trans HCX.out.2
                    clear hs hd
                    go_simp
                    exact hK _ _ (Kept.refl (fun _ => False) wz) hC (fun _ => SM.pl (by kernel_rfl))
                  case r26 =>
                    intro ls a wz hC hz hnew hwait hs hd K hK
                    obtain ⟨t6, t6'⟩ := tmp_both (hs 6 _ (by kernel_rfl) rfl)
                    clear hs hd
                    go_simp
                    exact hK _ _ (Kept.refl (fun _ => False) wz) hC (fun _ => SM.pl (by kernel_rfl))
                  case r27 =>
                    intro ls a wz hC hz hnew hwait hs hd K hK
                    obtain ⟨d26, d26'⟩ := SM.lt (.pointer (some ⟨pb, 0, none⟩)) (hd 26 141 (by kernel_rfl) (by kernel_rfl)) (by kernel_rfl)
                    clear hs hd
                    go_simp
                    refine (HT1.out wz (HWR.out.trans hC (fun _ _ h => h))).mono ?_
                    rintro e wv ⟨rfl, hkv⟩
                    exact hK _ _ hkv (hC.trans hkv (fun _ _ h => h)) (fun _ => SM.mk (tbl := (tb20s13 I l n m jj y xb pb g o cB w4.heap.size)) (k := .lit (.int .i64 ((pksN I l).length : Int))) (by kernel_rfl) rfl)
                  case r28 =>
                    intro ls a wz hC hz hnew hwait hs hd K hK
                    obtain ⟨d25, d25'⟩ := SM.lt (.int .i64 (m : Int)) (hd 25 140 (by kernel_rfl) (by kernel_rfl)) (by kernel_rfl)
                    obtain ⟨d27, d27'⟩ := SM.lt (.int .i64 ((pksN I l).length : Int)) (hd 27 142 (by kernel_rfl) (by kernel_rfl)) (by kernel_rfl)
                    clear hs hd
                    go_simp
                    exact hK _ _ (Kept.refl (fun _ => False) wz) hC (fun _ => SM.mk (tbl := (tb20s13 I l n m jj y xb pb g o cB w4.heap.size)) (k := .lit (.bool false)) (by kernel_rfl) (by first | rfl | (unfold KdMS; congr 1; first | exact decide_eq_false (by omega) | exact IntWalk.i64_in _ ⟨by omega, by omega⟩)))
                  case r29 =>
                    intro ls a wz hC hz hnew hwait hs hd K hK
                    obtain ⟨d21, d21'⟩ := SM.lt (.bool false) (hd 21 136 (by kernel_rfl) (by kernel_rfl)) (by kernel_rfl)
                    obtain ⟨d28, d28'⟩ := SM.lt (.bool false) (hd 28 143 (by kernel_rfl) (by kernel_rfl)) (by kernel_rfl)
                    clear hs hd
                    go_simp
                    exact hK _ _ (Kept.refl (fun _ => False) wz) hC (fun _ => SM.pl (by kernel_rfl))
                  case r30 =>
                    intro ls a wz hC hz hnew hwait hs hd K hK
                    obtain ⟨d29, d29'⟩ := SM.lt (.bool false) (hd 29 144 (by kernel_rfl) (by kernel_rfl)) (by kernel_rfl)
                    clear hs hd
                    go_simp
                    exact hK _ _ (Kept.refl (fun _ => False) wz) hC (fun _ => SM.pl (by kernel_rfl))
                  case r31 =>
                    intro ls a wz hC hz hnew hwait hs hd K hK
                    obtain ⟨t5, t5'⟩ := tmp_both (hs 5 _ (by kernel_rfl) rfl)
                    clear hs hd
                    go_simp
                    exact hK _ _ (Kept.refl (fun _ => False) wz) hC (fun _ => SM.pl (by kernel_rfl))
                  case r32 =>
                    intro ls a wz hC hz hnew hwait hs hd K hK
                    obtain ⟨t10, t10'⟩ := tmp_both (hs 10 _ (by kernel_rfl) rfl)
                    clear hs hd
                    go_simp
                    exact hK _ _ (Kept.refl (fun _ => False) wz) hC (fun _ => SM.pl (by kernel_rfl))
                  case r33 =>
                    intro ls a wz hC hz hnew hwait hs hd K hK
                    obtain ⟨t12, t12'⟩ := tmp_both (hs 12 _ (by kernel_rfl) rfl)
                    clear hs hd
                    go_simp
                    exact hK _ _ (Kept.refl (fun _ => False) wz) hC (fun _ => SM.pl (by kernel_rfl))
                  case r34 =>
                    intro ls a wz hC hz hnew hwait hs hd K hK
                    obtain ⟨d32, d32'⟩ := SM.lt (.slice (some ⟨g, o, none⟩) (obrL (pksN I l) (n : Int)).length cB) (hd 32 147 (by kernel_rfl) (by kernel_rfl)) (by kernel_rfl)
                    obtain ⟨d33, d33'⟩ := SM.lt (.int .i64 ((jj + 1 : Nat) : Int)) (hd 33 148 (by kernel_rfl) (by kernel_rfl)) (by kernel_rfl)
                    clear hs hd
                    go_simp
                    exact hK _ _ (Kept.refl (fun _ => False) wz) hC (fun _ => SM.pl (by kernel_rfl))
                  case r35 =>
                    intro ls a wz hC hz hnew hwait hs hd K hK
                    obtain ⟨d34, d34'⟩ := SM.lt (.pointer (some ⟨g, o + (jj + 1), none⟩)) (hd 34 149 (by kernel_rfl) (by kernel_rfl)) (by kernel_rfl)
                    have ka := (hC.cell (p := ⟨g, o + (jj + 1), none⟩) HCX.out.1 (fun h => h)).trans HCX.out.2
                    clear hs hd
                    go_simp
                    exact hK _ _ (Kept.refl (fun _ => False) wz) hC (fun _ => SM.pl (by kernel_rfl))
                  case r36 =>
                    intro ls a wz hC hz hnew hwait hs hd K hK
                    obtain ⟨d31, d31'⟩ := SM.lt (.pointer (some ⟨xb, 0, none⟩)) (hd 31 146 (by kernel_rfl) (by kernel_rfl)) (by kernel_rfl)
                    obtain ⟨d35, d35'⟩ := SM.lt (.int .i64 (m : Int)) (hd 35 150 (by kernel_rfl) (by kernel_rfl)) (by kernel_rfl)
                    clear hs hd
                    go_simp
                    refine (obsoleted13_walk (HI.out.quiet (HWR.out.trans hC (fun _ _ h => h))) HOK.out.fits HLN.out HOK.out.e1 m q HQM.out (names_few13 (HOK.out.may q (List.mem_of_getElem? HQM.out))).2).mono ?_
                    rintro e wv ⟨⟨v', rfl, ho⟩, hkv⟩
                    have ho' := own_less13 ho (b := w4.heap.size) (HWR.out.trans hC (fun _ _ h => h)).size
                    exact hK _ _ hkv (hC.trans hkv (fun _ _ h => h)) (fun _ => SM.mk (tbl := (tb20s13 I l n m jj y xb pb g o cB w4.heap.size)) (k := .own (w4.heap.size) ((obdL (pksN I l) (m : Int)))) (by kernel_rfl) ho')
                  case r37 =>
                    intro ls a wz hC hz hnew hwait hs hd K hK
                    obtain ⟨t8, t8'⟩ := tmp_both (hs 8 _ (by kernel_rfl) rfl)
                    clear hs hd
                    go_simp
                    exact hK _ _ (Kept.refl (fun _ => False) wz) hC (fun _ => SM.pl (by kernel_rfl))
                  case r38 =>
                    intro ls a wz hC hz hnew hwait hs hd K hK
                    obtain ⟨v36, d36, hv36⟩ := hd 36 151 (by kernel_rfl) (by kernel_rfl)
                    have hq36 : wz.ownsInts (w4.heap.size) 3 .i64 v36 ((obdL (pksN I l) (m : Int))) := SM.get (k := .own (w4.heap.size) ((obdL (pksN I l) (m : Int)))) (by kernel_rfl) hv36
                    obtain ⟨ao36, cp36, e36⟩ := own_form hq36.1
                    subst e36
                    obtain ⟨-, d36'⟩ := tmp_both d36
                    clear hv36
                    obtain ⟨d37, d37'⟩ := SM.lt (.int .i64 (n : Int)) (hd 37 152 (by kernel_rfl) (by kernel_rfl)) (by kernel_rfl)
                    clear hs hd
                    go_simp
                    have h := in13_walk _ (obdL (pksN I l) (m : Int)) (n : Int) wz (ints_of_own hq36) (by have h1 := obd_len13 (pksN I l) m; have h2 := HOK.out.few; omega)
                    rw [HIN.out] at h
                    refine h.mono ?_
                    rintro e wv ⟨rfl, hkv⟩
                    exact hK _ _ hkv (hC.trans hkv (fun _ _ h => h)) (fun _ => SM.mk (tbl := (tb20s13 I l n m jj y xb pb g o cB w4.heap.size)) (k := .lit (.bool true)) (by kernel_rfl) rfl)
                  case r39 =>
                    intro ls a wz hC hz hnew hwait hs hd K hK
                    obtain ⟨d38, d38'⟩ := SM.lt (.bool true) (hd 38 153 (by kernel_rfl) (by kernel_rfl)) (by kernel_rfl)
                    clear hs hd
                    go_simp
                    exact hK _ _ (Kept.refl (fun _ => False) wz) hC (fun _ => SM.pl (by kernel_rfl))
                  case r40 =>
                    intro ls a wz hC hz hnew hwait hs hd K hK
                    obtain ⟨d30, d30'⟩ := SM.lt (.bool false) (hd 30 145 (by kernel_rfl) (by kernel_rfl)) (by kernel_rfl)
                    obtain ⟨d39, d39'⟩ := SM.lt (.bool false) (hd 39 154 (by kernel_rfl) (by kernel_rfl)) (by kernel_rfl)
                    clear hs hd
                    go_simp
                    exact hK _ _ (Kept.refl (fun _ => False) wz) hC (fun _ => SM.pl (by kernel_rfl))
                  case rend =>
                    intro ls wz hall hC
                    intro u115 h115
                    intro u116 h116
                    intro u117 h117
                    intro u118 h118
                    intro u119 h119
                    intro u120 h120
                    intro u121 h121
                    intro u122 h122
                    intro u123 h123
                    intro u124 h124
                    intro u125 h125
                    intro u126 h126
                    intro u127 h127
                    intro u128 h128
                    intro u129 h129
                    intro u130 h130
                    intro u131 h131
                    intro u132 h132
                    intro u133 h133
                    intro u134 h134
                    intro u135 h135
                    intro u136 h136
                    intro u137 h137
                    intro u138 h138
                    intro u139 h139
                    intro u140 h140
                    intro u141 h141
                    intro u142 h142
                    intro u143 h143
                    intro u144 h144
                    intro u145 h145
                    intro u146 h146
                    intro u147 h147
                    intro u148 h148
                    intro u149 h149
                    intro u150 h150
                    intro u151 h151
                    intro u152 h152
                    intro u153 h153
                    intro u154 h154
                    intro u155 h155
                    have hl : u155 = .bool false := SM.get (tbl := (tb20s13 I l n m jj y xb pb g o cB w4.heap.size)) (k := .lit (.bool false)) (by kernel_rfl) h155
                    subst hl
                    have HKZ := Lib.hid (HKR.out.trans hC (fun _ _ h => h))
                    clear hall h115 h116 h117 h118 h119 h120 h121 h122 h123 h124 h125 h126 h127 h128 h129 h130 h131 h132 h133 h134 h135 h136 h137 h138 h139 h140 h141 h142 h143 h144 h145 h146 h147 h148 h149 h150 h151 h152 h153 h154
                    simp only [EndsP]
                    go_simp
                    go_wp2_with fail
                    go_roundw
                    case rel => exact ⟨jj + 1 + 1, by go_num, by omega, HKZ⟩
                    case measure => simp [intOf]; omega
              · obtain rfl : i = (obrL (pksN I l) (n : Int)).length := by omega
                have hge : ¬ ((obrL (pksN I l) (n : Int)).length : Int) < ((obrL (pksN I l) (n : Int)).length : Int) := by omega
                clear hlt hi
                have HKE := Lib.hid (HK6.out.trans HKR.out (fun _ _ h => h))
                go_wp2_with fail
                go_roundw
                case rel => exact ⟨n + 1, by go_num, by omega, HKE⟩
                case measure => simp [intOf]; omega
      · obtain rfl : n = (pksN I l).length := by omega
        have hge : ¬ ((pksN I l).length : Int) < ((pksN I l).length : Int) := by omega
        clear hnl hn
        go_wp2_with fail
        go_ret
        exact ⟨rfl, HKW.out.trans HK5.out (fun _ _ h => h)⟩
end Go.Proofs.YtpdoeapjdifmbaaGreatDoor
