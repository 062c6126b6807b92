/-
  The examples of layer 13, as its laws ask them first. Conditions: as each theorem states.
-/
import Derived.Test.YthjllgfceookcaaGreatDoorK37
namespace Go.Proofs.YthjllgfceookcaaGreatDoor
open Go.RowKit Ver Evr Span Dep Rich

theorem ints_lit13 {w : World} {g : Nat} {cs : Array Value} {zs : List Int} {n : Nat} (h : Box w g 3 cs) (hc : cs.toList = zs.map (Value.int .i64)) (hn : n = zs.length) : IntsS w (.slice (some ⟨g, 0, none⟩) n n) zs := by
  subst hn
  refine ⟨_, _, rfl, fun i z hz => ⟨g, 0, rfl, h.lt, ?_⟩⟩
  rw [Nat.zero_add, h.cell]
  rw [← Array.getElem?_toList, hc, List.getElem?_map, hz]
  rfl
theorem T13_fits : ∀ p ∈ T13, PkFits p := by
  intro p hp
  have hs : ∀ u : ByteArray, u.size ≤ 10 → u.size < 140737488355328 := fun u h => by omega
  have he : ∀ e : De, e.nm.size ≤ 10 → e.o < 256 → e.v.size ≤ 10 → e.r.size ≤ 10 → fitsDe e := fun e h1 h2 h3 h4 => ⟨by omega, h2, by omega, by omega⟩
  rcases List.mem_cons.1 hp with rfl | hp
  · exact nPk_fits _ (by decide)
  · rcases List.mem_cons.1 hp with rfl | hp
    · exact ⟨hs _ (by decide), hs _ (by decide), hs _ (by decide), by decide, hs _ (by decide), by decide, fun e h => by rw [List.mem_singleton.1 h]; exact he _ (by decide) (by decide) (by decide) (by decide), by decide, fun e h => by rw [List.mem_singleton.1 h]; exact he _ (by decide) (by decide) (by decide) (by decide), fitsLs_nil, fitsLs_nil, fitsLs_nil, fitsLs_nil, fitsLs_nil, fitsLs_nil, by decide, fun u h => by cases h⟩
    · rw [List.mem_singleton.1 hp]
      exact ⟨hs _ (by decide), hs _ (by decide), hs _ (by decide), by decide, hs _ (by decide), by decide, (fun e h => by cases h), by decide, (fun e h => by cases h), fitsLs_nil, fitsLs_nil, fitsLs_nil, fitsLs_nil, fitsLs_nil, fitsLs_nil, by decide, fun u h => by rw [List.mem_singleton.1 h]; exact hs _ (by decide)⟩
theorem T13_large : largeN [] T13 = false := by decide
theorem T13_valid : validN mayB T13 [] = true := by decide +kernel
theorem T13_pks : pksN T13 [] = T13 := rfl
theorem T13_len : (evF namesP 0 T13).length < 30000 := by decide
theorem T13_len2 : (evF namesO 0 T13).length < 30000 := by decide
theorem rps_nil13 (w : World) : RpsS w (.slice none 0 0) [] := ⟨none, 0, rfl, fun i r hr => by simp at hr⟩
theorem e13_fits (nm : ByteArray) (o : Nat) (v : ByteArray) (h1 : nm.size ≤ 10) (h2 : o < 256) (h3 : v.size ≤ 10) : fitsDe (e13 nm o v) := ⟨show nm.size < _ by omega, h2, show v.size < _ by omega, show (⟨#[]⟩ : ByteArray).size < 140737488355328 by decide⟩
theorem T13_p0 : provL T13 (e13 ⟨#[97]⟩ 0 ⟨#[]⟩) = [0, 1] := by decide +kernel
theorem T13_p1 : provL T13 (e13 ⟨#[97]⟩ 4 ⟨#[49]⟩) = [1] := by decide +kernel
theorem T13_p2 : provL T13 (e13 ⟨#[97]⟩ 6 ⟨#[49]⟩) = [0, 1] := by decide +kernel
theorem T13_p3 : provL T13 (e13 ⟨#[47, 102]⟩ 0 ⟨#[]⟩) = [2] := by decide +kernel
theorem T13_p4 : obdL T13 ((1 : Nat) : Int) = [0] := by decide +kernel
theorem T13_p5 : obrL T13 ((0 : Nat) : Int) = [1] := by decide +kernel
set_option maxRecDepth 100000 in
set_option maxHeartbeats 8000000 in
theorem works13_walk (w : World) (hW : PkW w) : Calls Tryz.prog 31 #[] w fun e w' => e = .returned (.bool true) ∧ Kept (fun _ => False) w w' := by
  have HW := Lib.hid hW
  clear hW
  go_enter Tryz.func31, Tryz.ntmps31
  go_wp2_with fail
  refine (three13_walk _).mono ?_
  rintro e w1 ⟨⟨v, rfl, hP⟩, hk1⟩
  have HK1 := Lib.hid hk1
  have HOF := Lib.hid (of13_walk [] T13 (.slice none 0 0) v w1 (rps_nil13 w1) hP ⟨by decide, by decide, fun r hr => by cases hr⟩ (fun p hp => T13_fits p (hp.elim id (fun ⟨r, hr, _⟩ => by cases hr))) (HW.out.kept hk1))
  clear hP hk1
  go_wp2_with fail
  refine HOF.out.mono ?_
  rintro e w2 ⟨hk2, ⟨hn, _⟩ | ⟨xb, pb, rfl, _, _, _, lo, hI⟩⟩
  · exfalso
    rcases hn with hn | hn
    · rw [T13_large] at hn; cases hn
    · rw [T13_valid] at hn; cases hn
  rw [T13_pks] at hI
  have HI := Lib.hid hI
  have HK2 := Lib.hid (HK1.out.trans hk2 (fun _ _ h => h))
  have K2 := Lib.hid (Kept.refl (fun _ => False) w2)
  clear hI hk2 HOF
  go_wp2_with fail
  refine (dep13_0 ⟨#[97]⟩ ⟨#[]⟩ _).mono ?_
  rintro e wa0 ⟨rfl, hka⟩
  have KA0 := Lib.hid (K2.out.trans hka (fun _ _ h => h))
  clear hka
  go_wp2_with fail
  refine (providers13_walk (HI.out.quiet KA0.out) T13_fits (by decide) (Nat.lt_trans T13_len (by decide)) (e13 ⟨#[97]⟩ 0 ⟨#[]⟩) (e13_fits _ _ _ (by decide) (by decide) (by decide))).mono ?_
  rintro e wb0 ⟨⟨v0, rfl, ho⟩, hkb⟩
  have KB0 := Lib.hid (KA0.out.trans hkb (fun _ _ h => h))
  rw [T13_p0] at ho
  have HV0 := Lib.hid ((ints_of_own ho).kept ((Kept.refl (fun _ => False) wb0).alloc (.cells #[.int .i64 0, .int .i64 1] 3)))
  have HE0 := Lib.hid (ints_lit13 (zs := [0, 1]) (n := 2) (Box.made wb0 3 #[.int .i64 0, .int .i64 1]) rfl rfl)
  have KC0 := Lib.hid (KB0.out.alloc (.cells #[.int .i64 0, .int .i64 1] 3))
  clear ho hkb
  go_wp2_with fail
  refine (are13_walk _ _ [0, 1] _ HV0.out HE0.out (by decide)).mono ?_
  rintro e wc0 ⟨rfl, hkc⟩
  have KD0 := Lib.hid (KC0.out.trans hkc (fun _ _ h => h))
  clear hkc
  go_wp2_with fail
  refine (dep13_4 ⟨#[97]⟩ ⟨#[49]⟩ _).mono ?_
  rintro e wa1 ⟨rfl, hka⟩
  have KA1 := Lib.hid (KD0.out.trans hka (fun _ _ h => h))
  clear hka
  go_wp2_with fail
  refine (providers13_walk (HI.out.quiet KA1.out) T13_fits (by decide) (Nat.lt_trans T13_len (by decide)) (e13 ⟨#[97]⟩ 4 ⟨#[49]⟩) (e13_fits _ _ _ (by decide) (by decide) (by decide))).mono ?_
  rintro e wb1 ⟨⟨v1, rfl, ho⟩, hkb⟩
  have KB1 := Lib.hid (KA1.out.trans hkb (fun _ _ h => h))
  rw [T13_p1] at ho
  have HV1 := Lib.hid ((ints_of_own ho).kept ((Kept.refl (fun _ => False) wb1).alloc (.cells #[.int .i64 1] 3)))
  have HE1 := Lib.hid (ints_lit13 (zs := [1]) (n := 1) (Box.made wb1 3 #[.int .i64 1]) rfl rfl)
  have KC1 := Lib.hid (KB1.out.alloc (.cells #[.int .i64 1] 3))
  clear ho hkb
  go_wp2_with fail
  refine (are13_walk _ _ [1] _ HV1.out HE1.out (by decide)).mono ?_
  rintro e wc1 ⟨rfl, hkc⟩
  have KD1 := Lib.hid (KC1.out.trans hkc (fun _ _ h => h))
  clear hkc
  go_wp2_with fail
  refine (dep13_6 ⟨#[97]⟩ ⟨#[49]⟩ _).mono ?_
  rintro e wa2 ⟨rfl, hka⟩
  have KA2 := Lib.hid (KD1.out.trans hka (fun _ _ h => h))
  clear hka
  go_wp2_with fail
  refine (providers13_walk (HI.out.quiet KA2.out) T13_fits (by decide) (Nat.lt_trans T13_len (by decide)) (e13 ⟨#[97]⟩ 6 ⟨#[49]⟩) (e13_fits _ _ _ (by decide) (by decide) (by decide))).mono ?_
  rintro e wb2 ⟨⟨v2, rfl, ho⟩, hkb⟩
  have KB2 := Lib.hid (KA2.out.trans hkb (fun _ _ h => h))
  rw [T13_p2] at ho
  have HV2 := Lib.hid ((ints_of_own ho).kept ((Kept.refl (fun _ => False) wb2).alloc (.cells #[.int .i64 0, .int .i64 1] 3)))
  have HE2 := Lib.hid (ints_lit13 (zs := [0, 1]) (n := 2) (Box.made wb2 3 #[.int .i64 0, .int .i64 1]) rfl rfl)
  have KC2 := Lib.hid (KB2.out.alloc (.cells #[.int .i64 0, .int .i64 1] 3))
  clear ho hkb
  go_wp2_with fail
  refine (are13_walk _ _ [0, 1] _ HV2.out HE2.out (by decide)).mono ?_
  rintro e wc2 ⟨rfl, hkc⟩
  have KD2 := Lib.hid (KC2.out.trans hkc (fun _ _ h => h))
  clear hkc
  go_wp2_with fail
  refine (dep13_0 ⟨#[47, 102]⟩ ⟨#[]⟩ _).mono ?_
  rintro e wa3 ⟨rfl, hka⟩
  have KA3 := Lib.hid (KD2.out.trans hka (fun _ _ h => h))
  clear hka
  go_wp2_with fail
  refine (providers13_walk (HI.out.quiet KA3.out) T13_fits (by decide) (Nat.lt_trans T13_len (by decide)) (e13 ⟨#[47, 102]⟩ 0 ⟨#[]⟩) (e13_fits _ _ _ (by decide) (by decide) (by decide))).mono ?_
  rintro e wb3 ⟨⟨v3, rfl, ho⟩, hkb⟩
  have KB3 := Lib.hid (KA3.out.trans hkb (fun _ _ h => h))
  rw [T13_p3] at ho
  have HV3 := Lib.hid ((ints_of_own ho).kept ((Kept.refl (fun _ => False) wb3).alloc (.cells #[.int .i64 2] 3)))
  have HE3 := Lib.hid (ints_lit13 (zs := [2]) (n := 1) (Box.made wb3 3 #[.int .i64 2]) rfl rfl)
  have KC3 := Lib.hid (KB3.out.alloc (.cells #[.int .i64 2] 3))
  clear ho hkb
  go_wp2_with fail
  refine (are13_walk _ _ [2] _ HV3.out HE3.out (by decide)).mono ?_
  rintro e wc3 ⟨rfl, hkc⟩
  have KD3 := Lib.hid (KC3.out.trans hkc (fun _ _ h => h))
  clear hkc
  go_wp2_with fail
  refine (obsoleted13_walk (HI.out.quiet KD3.out) T13_fits (by decide) T13_len 1 pkB13 rfl (by decide)).mono ?_
  rintro e wb4 ⟨⟨v4, rfl, ho⟩, hkb⟩
  have KB4 := Lib.hid (KD3.out.trans hkb (fun _ _ h => h))
  rw [T13_p4] at ho
  have HV4 := Lib.hid ((ints_of_own ho).kept ((Kept.refl (fun _ => False) wb4).alloc (.cells #[.int .i64 0] 3)))
  have HE4 := Lib.hid (ints_lit13 (zs := [0]) (n := 1) (Box.made wb4 3 #[.int .i64 0]) rfl rfl)
  have KC4 := Lib.hid (KB4.out.alloc (.cells #[.int .i64 0] 3))
  clear ho hkb
  go_wp2_with fail
  refine (are13_walk _ _ [0] _ HV4.out HE4.out (by decide)).mono ?_
  rintro e wc4 ⟨rfl, hkc⟩
  have KD4 := Lib.hid (KC4.out.trans hkc (fun _ _ h => h))
  clear hkc
  go_wp2_with fail
  refine (obsoleters13_walk (HI.out.quiet KD4.out) T13_fits (by decide) (Nat.lt_trans T13_len2 (by decide)) 0 (nPk ⟨#[97]⟩) rfl).mono ?_
  rintro e wb5 ⟨⟨v5, rfl, ho⟩, hkb⟩
  have KB5 := Lib.hid (KD4.out.trans hkb (fun _ _ h => h))
  rw [T13_p5] at ho
  have HV5 := Lib.hid ((ints_of_own ho).kept ((Kept.refl (fun _ => False) wb5).alloc (.cells #[.int .i64 1] 3)))
  have HE5 := Lib.hid (ints_lit13 (zs := [1]) (n := 1) (Box.made wb5 3 #[.int .i64 1]) rfl rfl)
  have KC5 := Lib.hid (KB5.out.alloc (.cells #[.int .i64 1] 3))
  clear ho hkb
  go_wp2_with fail
  refine (are13_walk _ _ [1] _ HV5.out HE5.out (by decide)).mono ?_
  rintro e wc5 ⟨rfl, hkc⟩
  have KD5 := Lib.hid (KC5.out.trans hkc (fun _ _ h => h))
  clear hkc
  go_wp2_with fail
  go_ret
  exact ⟨rfl, HK2.out.trans KD5.out (fun _ _ h => h)⟩
end Go.Proofs.YthjllgfceookcaaGreatDoor
