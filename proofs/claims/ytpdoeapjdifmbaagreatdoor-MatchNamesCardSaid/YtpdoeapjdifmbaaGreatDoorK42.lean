/-
  The law MatchNames (layer 13). Conditions: as each theorem states.
-/
import Derived.Test.YtpdoeapjdifmbaaGreatDoorK41
namespace Go.Proofs.YtpdoeapjdifmbaaGreatDoor
open Go.RowKit Ver Evr Span Dep Rich
attribute [local go_sem ↓] execOp_loadPq

def TW13 : Pk := ⟨⟨#[97]⟩, 0, ⟨#[49]⟩, ⟨#[49]⟩, 1, ⟨#[]⟩, [e13 ⟨#[97]⟩ 2 ⟨#[51]⟩, e13 ⟨#[97]⟩ 2 ⟨#[52]⟩, e13 ⟨#[97]⟩ 0 ⟨#[]⟩], [], [], [e13 ⟨#[97]⟩ 0 ⟨#[]⟩, e13 ⟨#[98]⟩ 0 ⟨#[]⟩, e13 ⟨#[98]⟩ 1 ⟨#[57]⟩], [], [], [], [], []⟩
def R13 : List Rp := [(0, [nPk ⟨#[97]⟩]), (0, [TW13, nPk ⟨#[98]⟩])]
def I13 : List Pk := [pkB13, pkC13]
def P13 : List Pk := [pkB13, pkC13, nPk ⟨#[97]⟩, TW13, nPk ⟨#[98]⟩]
theorem deC_at13 : ∀ (l : List De) (i : Nat) (z : De), l[i]? = some z → ∀ (j : Nat) (x : Value), (deA z)[j]? = some x → (l.flatMap fun e => (deA e).toList)[i * 5 + j]? = some x
  | [], i, z, h, _, _, _ => by simp at h
  | y :: zs, 0, z, h, j, x, hx => by
    have h' : y = z := by simpa using h
    subst h'
    have hj := (Array.getElem?_eq_some_iff.1 hx).1
    show ((deA y).toList ++ zs.flatMap fun e => (deA e).toList)[0 * 5 + j]? = some x
    rw [Nat.zero_mul, Nat.zero_add, List.getElem?_append_left (by simpa using hj)]
    simpa using hx
  | y :: zs, i + 1, z, h, j, x, hx => by
    have ih := deC_at13 zs i z (by simpa using h) j x hx
    show ((deA y).toList ++ zs.flatMap fun e => (deA e).toList)[(i + 1) * 5 + j]? = some x
    rw [List.getElem?_append_right (by show 5 ≤ _; omega), ← ih]
    show (zs.flatMap fun e => (deA e).toList)[(i + 1) * 5 + j - 5]? = _
    rw [show (i + 1) * 5 + j - 5 = i * 5 + j by omega]
theorem des_box13 {w : World} {g : Nat} {l : List De} {cs : Array Value} {n : Nat} (h : Box w g 60 cs) (hc : cs.toList = l.flatMap fun e => (deA e).toList) (hn : n = l.length) : DesS w (.slice (some ⟨g, 0, none⟩) n n) l := by
  subst hn
  refine ⟨_, _, rfl, fun i e he => ⟨g, 0, rfl, h.lt, fun j u hj => ?_⟩⟩
  rw [Nat.zero_add, h.cell, ← Array.getElem?_toList, hc]
  exact deC_at13 l i e he j u hj
theorem TW13_fits : PkFits TW13 := by
  have hs : ∀ u : ByteArray, u.size ≤ 10 → u.size < 140737488355328 := fun u h => by omega
  have he : ∀ e : De, e.nm.size ≤ 10 → e.o < 256 → e.v.size ≤ 10 → e.r.size ≤ 10 → fitsDe e := fun e h1 h2 h3 h4 => ⟨by omega, h2, by omega, by omega⟩
  have hd : ∀ l : List De, l.all (fun e => decide (e.nm.size ≤ 10) && decide (e.o < 256) && decide (e.v.size ≤ 10) && decide (e.r.size ≤ 10)) = true → ∀ e ∈ l, fitsDe e := fun l h e hm => by
    have h1 := List.all_eq_true.1 h e hm
    simp only [Bool.and_eq_true, decide_eq_true_iff] at h1
    exact he e h1.1.1.1 h1.1.1.2 h1.1.2 h1.2
  exact ⟨hs _ (by decide), hs _ (by decide), hs _ (by decide), by decide, hs _ (by decide), by decide, hd _ (by decide), by decide, hd _ (by decide), fitsLs_nil, fitsLs_nil, fitsLs_nil, fitsLs_nil, fitsLs_nil, fitsLs_nil, by decide, fun u h => by cases h⟩
theorem P13_fits : ∀ p ∈ P13, PkFits p := by
  intro p hp
  unfold P13 at hp
  simp only [List.mem_cons, List.not_mem_nil, or_false] at hp
  rcases hp with rfl | rfl | rfl | rfl | rfl
  · exact T13_fits _ (by unfold T13; simp)
  · exact T13_fits _ (by unfold T13; simp)
  · exact nPk_fits _ (by decide)
  · exact TW13_fits
  · exact nPk_fits _ (by decide)
theorem P13_large : largeN R13 I13 = false := by decide
theorem P13_valid : validN mayB I13 R13 = true := by decide +kernel
theorem P13_pks : pksN I13 R13 = P13 := rfl
theorem P13_len : (evF namesP 0 P13).length < 30000 := by decide
theorem P13_len2 : (evF namesO 0 P13).length < 30000 := by decide
theorem P13_in : ∀ p, (p ∈ I13 ∨ ∃ r ∈ R13, p ∈ r.2) → PkFits p := by
  intro p hp
  refine P13_fits p ?_
  unfold I13 R13 at hp
  unfold P13
  rcases hp with hp | ⟨r, hr, hp⟩
  · simp only [List.mem_cons, List.not_mem_nil, or_false] at hp ⊢
    rcases hp with rfl | rfl <;> simp
  · simp only [List.mem_cons, List.not_mem_nil, or_false] at hr
    rcases hr with rfl | rfl
    · simp only [List.mem_cons, List.not_mem_nil, or_false] at hp ⊢
      subst hp
      simp
    · simp only [List.mem_cons, List.not_mem_nil, or_false] at hp ⊢
      rcases hp with rfl | rfl <;> simp
theorem P13_lrg : LrgF R13 I13 := ⟨by decide, by decide, by decide⟩
theorem ints_nil13 (w : World) : IntsS w (.slice none 0 0) [] := ⟨none, 0, rfl, fun i z hz => by simp at hz⟩
theorem P13_s0 : provL P13 (e13 ⟨#[97]⟩ 0 ⟨#[]⟩) = [0, 2, 3] := by decide +kernel
theorem P13_s1 : namedL P13 (e13 ⟨#[97]⟩ 0 ⟨#[]⟩) = [2, 3] := by decide +kernel
theorem P13_s2 : provL P13 (e13 ⟨#[97]⟩ 2 ⟨#[51]⟩) = [3] := by decide +kernel
theorem P13_s3 : provL P13 (e13 ⟨#[97]⟩ 2 ⟨#[50]⟩) = [0, 3] := by decide +kernel
theorem P13_s4 : namedL P13 (e13 ⟨#[98]⟩ 2 ⟨#[49]⟩) = [0, 4] := by decide +kernel
theorem P13_s5 : obdL P13 ((3 : Nat) : Int) = [0, 2, 4] := by decide +kernel
theorem P13_s6 : obrL P13 ((2 : Nat) : Int) = [0, 3] := by decide +kernel
theorem P13_s7 : obrL P13 ((3 : Nat) : Int) = [0] := by decide +kernel
theorem P13_s8 : obdL P13 ((0 : Nat) : Int) = [2, 3] := by decide +kernel
theorem P13_s9 : provL P13 (e13 ⟨#[47, 102]⟩ 2 ⟨#[49]⟩) = [] := by decide +kernel
theorem P13_s10 : namedL P13 (e13 ⟨#[47, 102]⟩ 0 ⟨#[]⟩) = [] := by decide +kernel
theorem P13_s11 : obdL P13 (-1) = [] := by decide +kernel
theorem P13_s12 : obdL P13 (5) = [] := by decide +kernel
theorem P13_s13 : obrL P13 (5) = [] := by decide +kernel
theorem P13_s14 : provL P13 (e13 ⟨#[]⟩ 0 ⟨#[]⟩) = [] := by decide +kernel
theorem P13_s15 : provL P13 (e13 ⟨#[122]⟩ 0 ⟨#[]⟩) = [] := by decide +kernel
def tb8n13 (gd ge : Nat) : List KdY := [.three (T13), .pks ([nPk ⟨#[97]⟩]), .rep ([nPk ⟨#[97]⟩]), .lit (.agg #[.string ⟨#[97]⟩, .int .i64 0, .string ⟨#[49]⟩, .string ⟨#[49]⟩, .int .u8 1, .string ⟨#[]⟩, .slice (some ⟨gd, 0, none⟩) 3 3, .slice none 0 0, .slice none 0 0, .slice (some ⟨ge, 0, none⟩) 3 3, .slice none 0 0, .slice none 0 0, .slice none 0 0, .slice none 0 0, .slice none 0 0]), .lit (.agg #[.string ⟨#[98]⟩, .int .i64 0, .string ⟨#[49]⟩, .string ⟨#[49]⟩, .int .u8 1, .string ⟨#[]⟩, .slice none 0 0, .slice none 0 0, .slice none 0 0, .slice none 0 0, .slice none 0 0, .slice none 0 0, .slice none 0 0, .slice none 0 0, .slice none 0 0]), .pks ([TW13, nPk ⟨#[98]⟩]), .rep ([TW13, nPk ⟨#[98]⟩]), .rps (R13), .three (T13), .pks (I13), .tup (P13), .tup (P13), .idx (P13), .any, .lit (.bool true), .idx (P13), .any, .lit (.bool true)]
set_option maxRecDepth 100000 in
set_option maxHeartbeats 16000000 in
theorem matchnames_walk (w : World) (hW : PkW w) : Calls Tryz.prog 6 #[] w fun e w' => e = .returned (.bool true) ∧ Kept (fun _ => False) w w' := by
  have HW := Lib.hid hW
  clear hW
  go_enter Tryz.func6, Tryz.ntmps6
  go_wp2_with fail
  refine (new_nil13 _).mono ?_
  rintro e w1 ⟨rfl, hk1⟩
  have HKW := Lib.hid hk1
  clear hk1
  go_wp2_with fail
  refine (works13_walk _ (HW.out.kept HKW.out)).mono ?_
  rintro e w2 ⟨rfl, hk2⟩
  have HKW := Lib.hid (HKW.out.trans hk2 (fun _ _ h => h))
  clear hk2
  go_wp2_with fail
  refine (dep13_0 ⟨#[97]⟩ ⟨#[]⟩ _).mono ?_
  rintro e wn0 ⟨rfl, hkn⟩
  have HKW := Lib.hid (HKW.out.trans hkn (fun _ _ h => h))
  clear hkn
  go_wp2_with fail
  refine (prov_nil13 (e13 ⟨#[97]⟩ 0 ⟨#[]⟩) _).mono ?_
  rintro e wn1 ⟨rfl, hkn⟩
  have HKW := Lib.hid (HKW.out.trans hkn (fun _ _ h => h))
  clear hkn
  go_wp2_with fail
  refine (dep13_0 ⟨#[97]⟩ ⟨#[]⟩ _).mono ?_
  rintro e wn2 ⟨rfl, hkn⟩
  have HKW := Lib.hid (HKW.out.trans hkn (fun _ _ h => h))
  clear hkn
  go_wp2_with fail
  refine (named_nil13 (e13 ⟨#[97]⟩ 0 ⟨#[]⟩) _).mono ?_
  rintro e wn3 ⟨rfl, hkn⟩
  have HKW := Lib.hid (HKW.out.trans hkn (fun _ _ h => h))
  clear hkn
  go_wp2_with fail
  refine (obd_nil13 0 _).mono ?_
  rintro e wn4 ⟨rfl, hkn⟩
  have HKW := Lib.hid (HKW.out.trans hkn (fun _ _ h => h))
  clear hkn
  go_wp2_with fail
  refine (obr_nil13 0 _).mono ?_
  rintro e wn5 ⟨rfl, hkn⟩
  have HKW := Lib.hid (HKW.out.trans hkn (fun _ _ h => h))
  clear hkn
  go_wp2_with fail
  refine (bare13_walk ⟨#[97]⟩ _).mono ?_
  rintro e w3 ⟨rfl, hk3⟩
  have HKW := Lib.hid (HKW.out.trans hk3 (fun _ _ h => h))
  clear hk3
  go_wp2_with fail
  obtain ⟨gt, hgt⟩ : ∃ g, g = w3.heap.size := ⟨_, rfl⟩
  have hmt := Box.made w3 48 #[.string ⟨#[97]⟩, .int .i64 0, .string ⟨#[49]⟩, .string ⟨#[49]⟩, .int .u8 1, .string ⟨#[]⟩, .slice none 0 0, .slice none 0 0, .slice none 0 0, .slice none 0 0, .slice none 0 0, .slice none 0 0, .slice none 0 0, .slice none 0 0, .slice none 0 0]
  have HGT := Lib.hid (show w.heap.size ≤ gt by rw [hgt]; exact HKW.out.size)
  rw [← hgt] at hmt ⊢
  have HT := Lib.hid hmt
  have HKW := Lib.hid (HKW.out.alloc (.cells #[.string ⟨#[97]⟩, .int .i64 0, .string ⟨#[49]⟩, .string ⟨#[49]⟩, .int .u8 1, .string ⟨#[]⟩, .slice none 0 0, .slice none 0 0, .slice none 0 0, .slice none 0 0, .slice none 0 0, .slice none 0 0, .slice none 0 0, .slice none 0 0, .slice none 0 0] 48))
  generalize w3.alloc (.cells #[.string ⟨#[97]⟩, .int .i64 0, .string ⟨#[49]⟩, .string ⟨#[49]⟩, .int .u8 1, .string ⟨#[]⟩, .slice none 0 0, .slice none 0 0, .slice none 0 0, .slice none 0 0, .slice none 0 0, .slice none 0 0, .slice none 0 0, .slice none 0 0, .slice none 0 0] 48) = w4 at HT HKW ⊢
  clear hmt hgt
  refine (dep13_2 ⟨#[97]⟩ ⟨#[51]⟩ _).mono ?_
  rintro e wd0 ⟨rfl, hkd⟩
  have HT := Lib.hid (hkd.box HT.out (fun h => h))
  have HKW := Lib.hid (HKW.out.trans hkd (fun _ _ h => h))
  clear hkd
  go_wp2_with fail
  refine (dep13_2 ⟨#[97]⟩ ⟨#[52]⟩ _).mono ?_
  rintro e wd1 ⟨rfl, hkd⟩
  have HT := Lib.hid (hkd.box HT.out (fun h => h))
  have HKW := Lib.hid (HKW.out.trans hkd (fun _ _ h => h))
  clear hkd
  go_wp2_with fail
  refine (dep13_0 ⟨#[97]⟩ ⟨#[]⟩ _).mono ?_
  rintro e wd2 ⟨rfl, hkd⟩
  have HT := Lib.hid (hkd.box HT.out (fun h => h))
  have HKW := Lib.hid (HKW.out.trans hkd (fun _ _ h => h))
  clear hkd
  have hb := HT.out.after_alloc (.cells #[.string ⟨#[97]⟩, .int .u8 2, .int .i64 0, .string ⟨#[51]⟩, .string ⟨#[]⟩, .string ⟨#[97]⟩, .int .u8 2, .int .i64 0, .string ⟨#[52]⟩, .string ⟨#[]⟩, .string ⟨#[97]⟩, .int .u8 0, .int .i64 0, .string ⟨#[]⟩, .string ⟨#[]⟩] 60)
  have y6 := hb.cell 6
  have f6 := hb.free 6
  clear hb
  go_wp2_with fail
  have hltT := HT.out.lt
  obtain ⟨gd, hgd⟩ : ∃ g, g = wd2.heap.size := ⟨_, rfl⟩
  rw [← hgd]
  have hs : Kept (fun b => b = gt) (wd2.alloc (.cells #[.string ⟨#[97]⟩, .int .u8 2, .int .i64 0, .string ⟨#[51]⟩, .string ⟨#[]⟩, .string ⟨#[97]⟩, .int .u8 2, .int .i64 0, .string ⟨#[52]⟩, .string ⟨#[]⟩, .string ⟨#[97]⟩, .int .u8 0, .int .i64 0, .string ⟨#[]⟩, .string ⟨#[]⟩] 60)) ((wd2.alloc (.cells #[.string ⟨#[97]⟩, .int .u8 2, .int .i64 0, .string ⟨#[51]⟩, .string ⟨#[]⟩, .string ⟨#[97]⟩, .int .u8 2, .int .i64 0, .string ⟨#[52]⟩, .string ⟨#[]⟩, .string ⟨#[97]⟩, .int .u8 0, .int .i64 0, .string ⟨#[]⟩, .string ⟨#[]⟩] 60)).setCell ⟨gt, 6, none⟩ (.slice (some ⟨gd, 0, none⟩) 3 3)) := Kept.setCell (S := fun b => b = gt) (Kept.refl _ _) (p := ⟨gt, 6, none⟩) (.inl rfl) (.slice (some ⟨gd, 0, none⟩) 3 3)
  have HDgd := Lib.hid (hs.box (Box.made wd2 60 #[.string ⟨#[97]⟩, .int .u8 2, .int .i64 0, .string ⟨#[51]⟩, .string ⟨#[]⟩, .string ⟨#[97]⟩, .int .u8 2, .int .i64 0, .string ⟨#[52]⟩, .string ⟨#[]⟩, .string ⟨#[97]⟩, .int .u8 0, .int .i64 0, .string ⟨#[]⟩, .string ⟨#[]⟩]) (fun h => by have h' : wd2.heap.size = gt := h; omega))
  rw [← hgd] at HDgd
  have HT2 : Box ((wd2.alloc (.cells #[.string ⟨#[97]⟩, .int .u8 2, .int .i64 0, .string ⟨#[51]⟩, .string ⟨#[]⟩, .string ⟨#[97]⟩, .int .u8 2, .int .i64 0, .string ⟨#[52]⟩, .string ⟨#[]⟩, .string ⟨#[97]⟩, .int .u8 0, .int .i64 0, .string ⟨#[]⟩, .string ⟨#[]⟩] 60)).setCell ⟨gt, 6, none⟩ (.slice (some ⟨gd, 0, none⟩) 3 3)) gt 48 #[.string ⟨#[97]⟩, .int .i64 0, .string ⟨#[49]⟩, .string ⟨#[49]⟩, .int .u8 1, .string ⟨#[]⟩, .slice (some ⟨gd, 0, none⟩) 3 3, .slice none 0 0, .slice none 0 0, .slice none 0 0, .slice none 0 0, .slice none 0 0, .slice none 0 0, .slice none 0 0, .slice none 0 0] := (HT.out.after_alloc (.cells #[.string ⟨#[97]⟩, .int .u8 2, .int .i64 0, .string ⟨#[51]⟩, .string ⟨#[]⟩, .string ⟨#[97]⟩, .int .u8 2, .int .i64 0, .string ⟨#[52]⟩, .string ⟨#[]⟩, .string ⟨#[97]⟩, .int .u8 0, .int .i64 0, .string ⟨#[]⟩, .string ⟨#[]⟩] 60)).stored 6 (.slice (some ⟨gd, 0, none⟩) 3 3)
  have HKW2 := (HKW.out.alloc (.cells #[.string ⟨#[97]⟩, .int .u8 2, .int .i64 0, .string ⟨#[51]⟩, .string ⟨#[]⟩, .string ⟨#[97]⟩, .int .u8 2, .int .i64 0, .string ⟨#[52]⟩, .string ⟨#[]⟩, .string ⟨#[97]⟩, .int .u8 0, .int .i64 0, .string ⟨#[]⟩, .string ⟨#[]⟩] 60)).setCell (p := ⟨gt, 6, none⟩) (.inr HGT.out) (.slice (some ⟨gd, 0, none⟩) 3 3)
  clear y6 f6 hs HT HKW
  have HT := Lib.hid HT2
  have HKW := Lib.hid HKW2
  clear HT2 HKW2
  generalize (wd2.alloc (.cells #[.string ⟨#[97]⟩, .int .u8 2, .int .i64 0, .string ⟨#[51]⟩, .string ⟨#[]⟩, .string ⟨#[97]⟩, .int .u8 2, .int .i64 0, .string ⟨#[52]⟩, .string ⟨#[]⟩, .string ⟨#[97]⟩, .int .u8 0, .int .i64 0, .string ⟨#[]⟩, .string ⟨#[]⟩] 60)).setCell ⟨gt, 6, none⟩ (.slice (some ⟨gd, 0, none⟩) 3 3) = w5 at HT HKW HDgd ⊢
  clear hgd hltT
  refine (dep13_0 ⟨#[97]⟩ ⟨#[]⟩ _).mono ?_
  rintro e we0 ⟨rfl, hkd⟩
  have HT := Lib.hid (hkd.box HT.out (fun h => h))
  have HKW := Lib.hid (HKW.out.trans hkd (fun _ _ h => h))
  have HDgd := Lib.hid (hkd.box HDgd.out (fun h => h))
  clear hkd
  go_wp2_with fail
  refine (dep13_0 ⟨#[98]⟩ ⟨#[]⟩ _).mono ?_
  rintro e we1 ⟨rfl, hkd⟩
  have HT := Lib.hid (hkd.box HT.out (fun h => h))
  have HKW := Lib.hid (HKW.out.trans hkd (fun _ _ h => h))
  have HDgd := Lib.hid (hkd.box HDgd.out (fun h => h))
  clear hkd
  go_wp2_with fail
  refine (dep13_1 ⟨#[98]⟩ ⟨#[57]⟩ _).mono ?_
  rintro e we2 ⟨rfl, hkd⟩
  have HT := Lib.hid (hkd.box HT.out (fun h => h))
  have HKW := Lib.hid (HKW.out.trans hkd (fun _ _ h => h))
  have HDgd := Lib.hid (hkd.box HDgd.out (fun h => h))
  clear hkd
  have hb := HT.out.after_alloc (.cells #[.string ⟨#[97]⟩, .int .u8 0, .int .i64 0, .string ⟨#[]⟩, .string ⟨#[]⟩, .string ⟨#[98]⟩, .int .u8 0, .int .i64 0, .string ⟨#[]⟩, .string ⟨#[]⟩, .string ⟨#[98]⟩, .int .u8 1, .int .i64 0, .string ⟨#[57]⟩, .string ⟨#[]⟩] 60)
  have y9 := hb.cell 9
  have f9 := hb.free 9
  clear hb
  go_wp2_with fail
  have hltT := HT.out.lt
  obtain ⟨ge, hge⟩ : ∃ g, g = we2.heap.size := ⟨_, rfl⟩
  rw [← hge]
  have hs : Kept (fun b => b = gt) (we2.alloc (.cells #[.string ⟨#[97]⟩, .int .u8 0, .int .i64 0, .string ⟨#[]⟩, .string ⟨#[]⟩, .string ⟨#[98]⟩, .int .u8 0, .int .i64 0, .string ⟨#[]⟩, .string ⟨#[]⟩, .string ⟨#[98]⟩, .int .u8 1, .int .i64 0, .string ⟨#[57]⟩, .string ⟨#[]⟩] 60)) ((we2.alloc (.cells #[.string ⟨#[97]⟩, .int .u8 0, .int .i64 0, .string ⟨#[]⟩, .string ⟨#[]⟩, .string ⟨#[98]⟩, .int .u8 0, .int .i64 0, .string ⟨#[]⟩, .string ⟨#[]⟩, .string ⟨#[98]⟩, .int .u8 1, .int .i64 0, .string ⟨#[57]⟩, .string ⟨#[]⟩] 60)).setCell ⟨gt, 9, none⟩ (.slice (some ⟨ge, 0, none⟩) 3 3)) := Kept.setCell (S := fun b => b = gt) (Kept.refl _ _) (p := ⟨gt, 9, none⟩) (.inl rfl) (.slice (some ⟨ge, 0, none⟩) 3 3)
  have HDge := Lib.hid (hs.box (Box.made we2 60 #[.string ⟨#[97]⟩, .int .u8 0, .int .i64 0, .string ⟨#[]⟩, .string ⟨#[]⟩, .string ⟨#[98]⟩, .int .u8 0, .int .i64 0, .string ⟨#[]⟩, .string ⟨#[]⟩, .string ⟨#[98]⟩, .int .u8 1, .int .i64 0, .string ⟨#[57]⟩, .string ⟨#[]⟩]) (fun h => by have h' : we2.heap.size = gt := h; omega))
  rw [← hge] at HDge
  have hgdlt := HDgd.out.lt
  have HDX := Lib.hid (hs.box (HDgd.out.after_alloc (.cells #[.string ⟨#[97]⟩, .int .u8 0, .int .i64 0, .string ⟨#[]⟩, .string ⟨#[]⟩, .string ⟨#[98]⟩, .int .u8 0, .int .i64 0, .string ⟨#[]⟩, .string ⟨#[]⟩, .string ⟨#[98]⟩, .int .u8 1, .int .i64 0, .string ⟨#[57]⟩, .string ⟨#[]⟩] 60)) (fun h => by have h1 : gd = gt := h; subst h1; have h2 := HDgd.out; have h3 := HT.out; exact absurd ((show we2.heap[gd]? = _ from h2).symm.trans (show we2.heap[gd]? = _ from h3)) (by simp)))
  have HT2 : Box ((we2.alloc (.cells #[.string ⟨#[97]⟩, .int .u8 0, .int .i64 0, .string ⟨#[]⟩, .string ⟨#[]⟩, .string ⟨#[98]⟩, .int .u8 0, .int .i64 0, .string ⟨#[]⟩, .string ⟨#[]⟩, .string ⟨#[98]⟩, .int .u8 1, .int .i64 0, .string ⟨#[57]⟩, .string ⟨#[]⟩] 60)).setCell ⟨gt, 9, none⟩ (.slice (some ⟨ge, 0, none⟩) 3 3)) gt 48 #[.string ⟨#[97]⟩, .int .i64 0, .string ⟨#[49]⟩, .string ⟨#[49]⟩, .int .u8 1, .string ⟨#[]⟩, .slice (some ⟨gd, 0, none⟩) 3 3, .slice none 0 0, .slice none 0 0, .slice (some ⟨ge, 0, none⟩) 3 3, .slice none 0 0, .slice none 0 0, .slice none 0 0, .slice none 0 0, .slice none 0 0] := (HT.out.after_alloc (.cells #[.string ⟨#[97]⟩, .int .u8 0, .int .i64 0, .string ⟨#[]⟩, .string ⟨#[]⟩, .string ⟨#[98]⟩, .int .u8 0, .int .i64 0, .string ⟨#[]⟩, .string ⟨#[]⟩, .string ⟨#[98]⟩, .int .u8 1, .int .i64 0, .string ⟨#[57]⟩, .string ⟨#[]⟩] 60)).stored 9 (.slice (some ⟨ge, 0, none⟩) 3 3)
  have HKW2 := (HKW.out.alloc (.cells #[.string ⟨#[97]⟩, .int .u8 0, .int .i64 0, .string ⟨#[]⟩, .string ⟨#[]⟩, .string ⟨#[98]⟩, .int .u8 0, .int .i64 0, .string ⟨#[]⟩, .string ⟨#[]⟩, .string ⟨#[98]⟩, .int .u8 1, .int .i64 0, .string ⟨#[57]⟩, .string ⟨#[]⟩] 60)).setCell (p := ⟨gt, 9, none⟩) (.inr HGT.out) (.slice (some ⟨ge, 0, none⟩) 3 3)
  clear y9 f9 hs HT HKW
  have HT := Lib.hid HT2
  have HKW := Lib.hid HKW2
  clear HT2 HKW2
  generalize (we2.alloc (.cells #[.string ⟨#[97]⟩, .int .u8 0, .int .i64 0, .string ⟨#[]⟩, .string ⟨#[]⟩, .string ⟨#[98]⟩, .int .u8 0, .int .i64 0, .string ⟨#[]⟩, .string ⟨#[]⟩, .string ⟨#[98]⟩, .int .u8 1, .int .i64 0, .string ⟨#[57]⟩, .string ⟨#[]⟩] 60)).setCell ⟨gt, 9, none⟩ (.slice (some ⟨ge, 0, none⟩) 3 3) = w6 at HT HKW HDge HDX ⊢
  clear hge hltT hgdlt HDgd
  have HTI := Lib.hid (show PkIn w6 TW13 (⟨.slice (some ⟨gd, 0, none⟩) 3 3, .slice none 0 0, .slice none 0 0, .slice (some ⟨ge, 0, none⟩) 3 3, .slice none 0 0, .slice none 0 0, .slice none 0 0, .slice none 0 0, .slice none 0 0⟩ : Sl) from ⟨des_box13 HDX.out rfl rfl, RisS.nil _, RisS.nil _, des_box13 HDge.out rfl rfl, RisS.nil _, RisS.nil _, RisS.nil _, RisS.nil _, StrS.nil10 _, NilOk.some _ _ _, NilOk.zero, NilOk.zero, NilOk.some _ _ _, NilOk.zero, NilOk.zero, NilOk.zero, NilOk.zero, NilOk.zero⟩)
  refine wp_region_inv (SY (tb8n13 gd ge)) (fun w1 w2 => Kept (fun _ => False) w1 w2) (fun _ w' => Kept (fun _ => False) w6 w') (by kernel_rfl) (by kernel_rfl) (Kept.refl (fun _ => False) w6).drew (fun j w1 w2 v h hs => SY.kept (tb8n13 gd ge) j w1 w2 v h hs) ⟨OpOK.plain rfl ?r0, OpOK.plain rfl ?r1, OpOK.plain rfl ?r2, OpOK.plain rfl ?r3, OpOK.plain rfl ?r4, OpOK.plain rfl ?r5, OpOK.plain rfl ?r6, OpOK.plain rfl ?r7, OpOK.plain rfl ?r8, OpOK.plain rfl ?r9, OpOK.plain rfl ?r10, OpOK.plain rfl ?r11, OpOK.plain rfl ?r12, OpOK.plain rfl ?r13, OpOK.plain rfl ?r14, OpOK.plain rfl ?r15, OpOK.plain rfl ?r16, OpOK.plain rfl ?r17, trivial⟩ ?rend
  case r0 =>
    intro ls a wz hC hz hnew hwait hs hd K hK
    clear hs hd
    go_simp
    refine (three13g_walk _).mono ?_
    rintro e wv ⟨⟨g, rfl, hp⟩, hkv⟩
    exact hK _ _ hkv (hC.trans hkv (fun _ _ h => h)) (fun _ => SY.mk (tbl := (tb8n13 gd ge)) (k := .three (T13)) (by kernel_rfl) ⟨g, rfl, hp⟩)
  case r1 =>
    intro ls a wz hC hz hnew hwait hs hd K hK
    obtain ⟨v0, d0, hv0⟩ := hd 0 56 (by kernel_rfl) (by kernel_rfl)
    have hq0 : KdYS (.three (T13)) wz v0 := SY.get (tbl := (tb8n13 gd ge)) (k := .three (T13)) (by kernel_rfl) hv0
    clear hv0
    obtain ⟨g0, rfl, hp0⟩ := hq0
    have d0' := d0
    rw [Array.getD_eq_getD_getElem?] at d0'
    clear hs hd
    go_simp
    exact hK _ _ (Kept.refl (fun _ => False) wz) hC (fun _ => SY.mk (tbl := (tb8n13 gd ge)) (k := .pks ([nPk ⟨#[97]⟩])) (by kernel_rfl) (pks_take13 (k := 1) hp0 (by decide)))
  case r2 =>
    intro ls a wz hC hz hnew hwait hs hd K hK
    obtain ⟨v1, d1, hv1⟩ := hd 1 57 (by kernel_rfl) (by kernel_rfl)
    have hq1 : KdYS (.pks ([nPk ⟨#[97]⟩])) wz v1 := SY.get (tbl := (tb8n13 gd ge)) (k := .pks ([nPk ⟨#[97]⟩])) (by kernel_rfl) hv1
    clear hv1
    obtain ⟨ao1, cp1, e1, _⟩ := id hq1
    subst e1
    have d1' := d1
    rw [Array.getD_eq_getD_getElem?] at d1'
    clear hs hd
    go_simp
    exact hK _ _ (Kept.refl (fun _ => False) wz) hC (fun _ => SY.mk (tbl := (tb8n13 gd ge)) (k := .rep ([nPk ⟨#[97]⟩])) (by kernel_rfl) ⟨_, rfl, hq1⟩)
  case r3 =>
    intro ls a wz hC hz hnew hwait hs hd K hK
    have t4 := hs 4 _ (by kernel_rfl) rfl
    have t4' := t4
    rw [Array.getD_eq_getD_getElem?] at t4'
    have la := run_loadPq (g := gt) (o := 0) (cs := #[.string ⟨#[97]⟩, .int .i64 0, .string ⟨#[49]⟩, .string ⟨#[49]⟩, .int .u8 1, .string ⟨#[]⟩, .slice (some ⟨gd, 0, none⟩) 3 3, .slice none 0 0, .slice none 0 0, .slice (some ⟨ge, 0, none⟩) 3 3, .slice none 0 0, .slice none 0 0, .slice none 0 0, .slice none 0 0, .slice none 0 0]) (w := wz) (fun j x hx => by rw [Nat.zero_add, (hC.box HT.out (fun h => h)).cell]; exact hx) rfl
    clear hs hd
    go_simp
    exact hK _ _ (Kept.refl (fun _ => False) wz) hC (fun _ => SY.mk (tbl := (tb8n13 gd ge)) (k := .lit (.agg #[.string ⟨#[97]⟩, .int .i64 0, .string ⟨#[49]⟩, .string ⟨#[49]⟩, .int .u8 1, .string ⟨#[]⟩, .slice (some ⟨gd, 0, none⟩) 3 3, .slice none 0 0, .slice none 0 0, .slice (some ⟨ge, 0, none⟩) 3 3, .slice none 0 0, .slice none 0 0, .slice none 0 0, .slice none 0 0, .slice none 0 0])) (by kernel_rfl) rfl)
  case r4 =>
    intro ls a wz hC hz hnew hwait hs hd K hK
    clear hs hd
    go_simp
    refine (bare13_walk ⟨#[98]⟩ _).mono ?_
    rintro e wv ⟨rfl, hkv⟩
    exact hK _ _ hkv (hC.trans hkv (fun _ _ h => h)) (fun _ => SY.mk (tbl := (tb8n13 gd ge)) (k := .lit (.agg #[.string ⟨#[98]⟩, .int .i64 0, .string ⟨#[49]⟩, .string ⟨#[49]⟩, .int .u8 1, .string ⟨#[]⟩, .slice none 0 0, .slice none 0 0, .slice none 0 0, .slice none 0 0, .slice none 0 0, .slice none 0 0, .slice none 0 0, .slice none 0 0, .slice none 0 0])) (by kernel_rfl) rfl)
  case r5 =>
    intro ls a wz hC hz hnew hwait hs hd K hK
    have d3 : a.tmps.getD 59 undef = .agg #[.string ⟨#[97]⟩, .int .i64 0, .string ⟨#[49]⟩, .string ⟨#[49]⟩, .int .u8 1, .string ⟨#[]⟩, .slice (some ⟨gd, 0, none⟩) 3 3, .slice none 0 0, .slice none 0 0, .slice (some ⟨ge, 0, none⟩) 3 3, .slice none 0 0, .slice none 0 0, .slice none 0 0, .slice none 0 0, .slice none 0 0] := by
      obtain ⟨u, hu, hv⟩ := hd 3 59 (by kernel_rfl) (by kernel_rfl)
      rw [hu]; exact SY.get (tbl := (tb8n13 gd ge)) (k := .lit (.agg #[.string ⟨#[97]⟩, .int .i64 0, .string ⟨#[49]⟩, .string ⟨#[49]⟩, .int .u8 1, .string ⟨#[]⟩, .slice (some ⟨gd, 0, none⟩) 3 3, .slice none 0 0, .slice none 0 0, .slice (some ⟨ge, 0, none⟩) 3 3, .slice none 0 0, .slice none 0 0, .slice none 0 0, .slice none 0 0, .slice none 0 0])) (by kernel_rfl) hv
    have d3' : a.tmps[59]?.getD undef = .agg #[.string ⟨#[97]⟩, .int .i64 0, .string ⟨#[49]⟩, .string ⟨#[49]⟩, .int .u8 1, .string ⟨#[]⟩, .slice (some ⟨gd, 0, none⟩) 3 3, .slice none 0 0, .slice none 0 0, .slice (some ⟨ge, 0, none⟩) 3 3, .slice none 0 0, .slice none 0 0, .slice none 0 0, .slice none 0 0, .slice none 0 0] := by rw [← Array.getD_eq_getD_getElem?]; exact d3
    have d4 : a.tmps.getD 60 undef = .agg #[.string ⟨#[98]⟩, .int .i64 0, .string ⟨#[49]⟩, .string ⟨#[49]⟩, .int .u8 1, .string ⟨#[]⟩, .slice none 0 0, .slice none 0 0, .slice none 0 0, .slice none 0 0, .slice none 0 0, .slice none 0 0, .slice none 0 0, .slice none 0 0, .slice none 0 0] := by
      obtain ⟨u, hu, hv⟩ := hd 4 60 (by kernel_rfl) (by kernel_rfl)
      rw [hu]; exact SY.get (tbl := (tb8n13 gd ge)) (k := .lit (.agg #[.string ⟨#[98]⟩, .int .i64 0, .string ⟨#[49]⟩, .string ⟨#[49]⟩, .int .u8 1, .string ⟨#[]⟩, .slice none 0 0, .slice none 0 0, .slice none 0 0, .slice none 0 0, .slice none 0 0, .slice none 0 0, .slice none 0 0, .slice none 0 0, .slice none 0 0])) (by kernel_rfl) hv
    have d4' : a.tmps[60]?.getD undef = .agg #[.string ⟨#[98]⟩, .int .i64 0, .string ⟨#[49]⟩, .string ⟨#[49]⟩, .int .u8 1, .string ⟨#[]⟩, .slice none 0 0, .slice none 0 0, .slice none 0 0, .slice none 0 0, .slice none 0 0, .slice none 0 0, .slice none 0 0, .slice none 0 0, .slice none 0 0] := by rw [← Array.getD_eq_getD_getElem?]; exact d4
    have hk := (hC.alloc (.cells #[.string ⟨#[97]⟩, .int .i64 0, .string ⟨#[49]⟩, .string ⟨#[49]⟩, .int .u8 1, .string ⟨#[]⟩, .slice (some ⟨gd, 0, none⟩) 3 3, .slice none 0 0, .slice none 0 0, .slice (some ⟨ge, 0, none⟩) 3 3, .slice none 0 0, .slice none 0 0, .slice none 0 0, .slice none 0 0, .slice none 0 0, .string ⟨#[98]⟩, .int .i64 0, .string ⟨#[49]⟩, .string ⟨#[49]⟩, .int .u8 1, .string ⟨#[]⟩, .slice none 0 0, .slice none 0 0, .slice none 0 0, .slice none 0 0, .slice none 0 0, .slice none 0 0, .slice none 0 0, .slice none 0 0, .slice none 0 0] 48))
    have hbb := Box.made wz 48 #[.string ⟨#[97]⟩, .int .i64 0, .string ⟨#[49]⟩, .string ⟨#[49]⟩, .int .u8 1, .string ⟨#[]⟩, .slice (some ⟨gd, 0, none⟩) 3 3, .slice none 0 0, .slice none 0 0, .slice (some ⟨ge, 0, none⟩) 3 3, .slice none 0 0, .slice none 0 0, .slice none 0 0, .slice none 0 0, .slice none 0 0, .string ⟨#[98]⟩, .int .i64 0, .string ⟨#[49]⟩, .string ⟨#[49]⟩, .int .u8 1, .string ⟨#[]⟩, .slice none 0 0, .slice none 0 0, .slice none 0 0, .slice none 0 0, .slice none 0 0, .slice none 0 0, .slice none 0 0, .slice none 0 0, .slice none 0 0]
    have hF := pksS_box (l := [(TW13, (⟨.slice (some ⟨gd, 0, none⟩) 3 3, .slice none 0 0, .slice none 0 0, .slice (some ⟨ge, 0, none⟩) 3 3, .slice none 0 0, .slice none 0 0, .slice none 0 0, .slice none 0 0, .slice none 0 0⟩ : Sl)), (nPk ⟨#[98]⟩, nSl)]) (n := 2) (ps := [TW13, nPk ⟨#[98]⟩]) hbb rfl rfl rfl (fun q hq => by
      rcases List.mem_cons.1 hq with rfl | hq
      · exact HTI.out.kept hk
      · rw [List.mem_singleton.1 hq]
        exact nPk_in _ _)
    clear hs hd
    go_simp
    exact hK _ _ ((Kept.refl (fun _ => False) wz).alloc _) (hC.alloc _) (fun _ => SY.mk (tbl := (tb8n13 gd ge)) (k := .pks ([TW13, nPk ⟨#[98]⟩])) (by kernel_rfl) hF)
  case r6 =>
    intro ls a wz hC hz hnew hwait hs hd K hK
    obtain ⟨v5, d5, hv5⟩ := hd 5 61 (by kernel_rfl) (by kernel_rfl)
    have hq5 : KdYS (.pks ([TW13, nPk ⟨#[98]⟩])) wz v5 := SY.get (tbl := (tb8n13 gd ge)) (k := .pks ([TW13, nPk ⟨#[98]⟩])) (by kernel_rfl) hv5
    clear hv5
    obtain ⟨ao5, cp5, e5, _⟩ := id hq5
    subst e5
    have d5' := d5
    rw [Array.getD_eq_getD_getElem?] at d5'
    clear hs hd
    go_simp
    exact hK _ _ (Kept.refl (fun _ => False) wz) hC (fun _ => SY.mk (tbl := (tb8n13 gd ge)) (k := .rep ([TW13, nPk ⟨#[98]⟩])) (by kernel_rfl) ⟨_, rfl, hq5⟩)
  case r7 =>
    intro ls a wz hC hz hnew hwait hs hd K hK
    obtain ⟨v2, d2, hv2⟩ := hd 2 58 (by kernel_rfl) (by kernel_rfl)
    have hq2 : KdYS (.rep ([nPk ⟨#[97]⟩])) wz v2 := SY.get (tbl := (tb8n13 gd ge)) (k := .rep ([nPk ⟨#[97]⟩])) (by kernel_rfl) hv2
    clear hv2
    obtain ⟨u2, rfl, hp2⟩ := hq2
    have d2' := d2
    rw [Array.getD_eq_getD_getElem?] at d2'
    obtain ⟨v6, d6, hv6⟩ := hd 6 62 (by kernel_rfl) (by kernel_rfl)
    have hq6 : KdYS (.rep ([TW13, nPk ⟨#[98]⟩])) wz v6 := SY.get (tbl := (tb8n13 gd ge)) (k := .rep ([TW13, nPk ⟨#[98]⟩])) (by kernel_rfl) hv6
    clear hv6
    obtain ⟨u6, rfl, hp6⟩ := hq6
    have d6' := d6
    rw [Array.getD_eq_getD_getElem?] at d6'
    have hF := rps_two13 hp2 hp6
    clear hs hd
    go_simp
    exact hK _ _ ((Kept.refl (fun _ => False) wz).alloc _) (hC.alloc _) (fun _ => SY.mk (tbl := (tb8n13 gd ge)) (k := .rps (R13)) (by kernel_rfl) hF)
  case r8 =>
    intro ls a wz hC hz hnew hwait hs hd K hK
    clear hs hd
    go_simp
    refine (three13g_walk _).mono ?_
    rintro e wv ⟨⟨g, rfl, hp⟩, hkv⟩
    exact hK _ _ hkv (hC.trans hkv (fun _ _ h => h)) (fun _ => SY.mk (tbl := (tb8n13 gd ge)) (k := .three (T13)) (by kernel_rfl) ⟨g, rfl, hp⟩)
  case r9 =>
    intro ls a wz hC hz hnew hwait hs hd K hK
    obtain ⟨v8, d8, hv8⟩ := hd 8 64 (by kernel_rfl) (by kernel_rfl)
    have hq8 : KdYS (.three (T13)) wz v8 := SY.get (tbl := (tb8n13 gd ge)) (k := .three (T13)) (by kernel_rfl) hv8
    clear hv8
    obtain ⟨g8, rfl, hp8⟩ := hq8
    have d8' := d8
    rw [Array.getD_eq_getD_getElem?] at d8'
    clear hs hd
    go_simp
    exact hK _ _ (Kept.refl (fun _ => False) wz) hC (fun _ => SY.mk (tbl := (tb8n13 gd ge)) (k := .pks (I13)) (by kernel_rfl) (pks_drop13 (k := 1) hp8))
  case r10 =>
    intro ls a wz hC hz hnew hwait hs hd K hK
    obtain ⟨v7, d7, hv7⟩ := hd 7 63 (by kernel_rfl) (by kernel_rfl)
    have hq7 : KdYS (.rps (R13)) wz v7 := SY.get (tbl := (tb8n13 gd ge)) (k := .rps (R13)) (by kernel_rfl) hv7
    clear hv7
    obtain ⟨ao7, cp7, e7, _⟩ := id hq7
    subst e7
    have d7' := d7
    rw [Array.getD_eq_getD_getElem?] at d7'
    obtain ⟨v9, d9, hv9⟩ := hd 9 65 (by kernel_rfl) (by kernel_rfl)
    have hq9 : KdYS (.pks (I13)) wz v9 := SY.get (tbl := (tb8n13 gd ge)) (k := .pks (I13)) (by kernel_rfl) hv9
    clear hv9
    obtain ⟨ao9, cp9, e9, _⟩ := id hq9
    subst e9
    have d9' := d9
    rw [Array.getD_eq_getD_getElem?] at d9'
    clear hs hd
    go_simp
    refine (of13_walk R13 I13 _ _ wz hq7 hq9 P13_lrg P13_in (HW.out.kept (HKW.out.trans hC (fun _ _ h => h)))).mono ?_
    rintro e wv ⟨hkv, ⟨hn, _⟩ | ⟨xb, pb, rfl, _, _, _, lo, hI⟩⟩
    · exfalso
      rcases hn with hn | hn
      · rw [P13_large] at hn; cases hn
      · rw [P13_valid] at hn; cases hn
    rw [P13_pks] at hI
    exact hK _ _ hkv (hC.trans hkv (fun _ _ h => h)) (fun _ => SY.mk (tbl := (tb8n13 gd ge)) (k := .tup (P13)) (by kernel_rfl) ⟨xb, pb, rfl, lo, hI⟩)
  case r11 =>
    intro ls a wz hC hz hnew hwait hs hd K hK
    obtain ⟨v10, d10, hv10⟩ := hd 10 66 (by kernel_rfl) (by kernel_rfl)
    have hq10 : KdYS (.tup (P13)) wz v10 := SY.get (tbl := (tb8n13 gd ge)) (k := .tup (P13)) (by kernel_rfl) hv10
    clear hv10
    obtain ⟨x10, p10, rfl, lo10, hp10⟩ := hq10
    have d10' := d10
    rw [Array.getD_eq_getD_getElem?] at d10'
    clear hs hd
    go_simp
    exact hK _ _ (Kept.refl (fun _ => False) wz) hC (fun _ => SY.mk (tbl := (tb8n13 gd ge)) (k := .tup (P13)) (by kernel_rfl) ⟨_, _, rfl, _, hp10⟩)
  case r12 =>
    intro ls a wz hC hz hnew hwait hs hd K hK
    obtain ⟨v11, d11, hv11⟩ := hd 11 55 (by kernel_rfl) (by kernel_rfl)
    have hq11 : KdYS (.tup (P13)) wz v11 := SY.get (tbl := (tb8n13 gd ge)) (k := .tup (P13)) (by kernel_rfl) hv11
    clear hv11
    obtain ⟨x11, p11, rfl, lo11, hp11⟩ := hq11
    have d11' := d11
    rw [Array.getD_eq_getD_getElem?] at d11'
    clear hs hd
    go_simp
    exact hK _ _ (Kept.refl (fun _ => False) wz) hC (fun _ => SY.mk (tbl := (tb8n13 gd ge)) (k := .idx (P13)) (by kernel_rfl) ⟨_, rfl, _, hp11⟩)
  case r13 =>
    intro ls a wz hC hz hnew hwait hs hd K hK
    obtain ⟨v11, d11, hv11⟩ := hd 11 55 (by kernel_rfl) (by kernel_rfl)
    have hq11 : KdYS (.tup (P13)) wz v11 := SY.get (tbl := (tb8n13 gd ge)) (k := .tup (P13)) (by kernel_rfl) hv11
    clear hv11
    obtain ⟨x11, p11, rfl, lo11, hp11⟩ := hq11
    have d11' := d11
    rw [Array.getD_eq_getD_getElem?] at d11'
    clear hs hd
    go_simp
    exact hK _ _ (Kept.refl (fun _ => False) wz) hC (fun _ => SY.mk (tbl := (tb8n13 gd ge)) (k := .any) (by kernel_rfl) trivial)
  case r14 =>
    intro ls a wz hC hz hnew hwait hs hd K hK
    obtain ⟨v11, d11, hv11⟩ := hd 11 55 (by kernel_rfl) (by kernel_rfl)
    have hq11 : KdYS (.tup (P13)) wz v11 := SY.get (tbl := (tb8n13 gd ge)) (k := .tup (P13)) (by kernel_rfl) hv11
    clear hv11
    obtain ⟨x11, p11, rfl, lo11, hp11⟩ := hq11
    have d11' := d11
    rw [Array.getD_eq_getD_getElem?] at d11'
    clear hs hd
    go_simp
    exact hK _ _ (Kept.refl (fun _ => False) wz) hC (fun _ => SY.mk (tbl := (tb8n13 gd ge)) (k := .lit (.bool true)) (by kernel_rfl) rfl)
  case r15 =>
    intro ls a wz hC hz hnew hwait hs hd K hK
    obtain ⟨v12, d12, hv12⟩ := hd 12 67 (by kernel_rfl) (by kernel_rfl)
    have hq12 : KdYS (.idx (P13)) wz v12 := SY.get (tbl := (tb8n13 gd ge)) (k := .idx (P13)) (by kernel_rfl) hv12
    clear hv12
    obtain ⟨x12, rfl, lo12, hp12⟩ := hq12
    have d12' := d12
    rw [Array.getD_eq_getD_getElem?] at d12'
    clear hs hd
    go_simp
    exact hK _ _ (Kept.refl (fun _ => False) wz) hC (fun _ => SY.mk (tbl := (tb8n13 gd ge)) (k := .idx (P13)) (by kernel_rfl) ⟨_, rfl, _, hp12⟩)
  case r16 =>
    intro ls a wz hC hz hnew hwait hs hd K hK
    clear hs hd
    go_simp
    exact hK _ _ (Kept.refl (fun _ => False) wz) hC (fun _ => SY.mk (tbl := (tb8n13 gd ge)) (k := .any) (by kernel_rfl) trivial)
  case r17 =>
    intro ls a wz hC hz hnew hwait hs hd K hK
    have d14 : a.tmps.getD 69 undef = .bool true := by
      obtain ⟨u, hu, hv⟩ := hd 14 69 (by kernel_rfl) (by kernel_rfl)
      rw [hu]; exact SY.get (tbl := (tb8n13 gd ge)) (k := .lit (.bool true)) (by kernel_rfl) hv
    have d14' : a.tmps[69]?.getD undef = .bool true := by rw [← Array.getD_eq_getD_getElem?]; exact d14
    clear hs hd
    go_simp
    exact hK _ _ (Kept.refl (fun _ => False) wz) hC (fun _ => SY.mk (tbl := (tb8n13 gd ge)) (k := .lit (.bool true)) (by kernel_rfl) rfl)
  case rend =>
    intro ls wz hall hC
    intro u56 h56
    intro u57 h57
    intro u58 h58
    intro u59 h59
    intro u60 h60
    intro u61 h61
    intro u62 h62
    intro u63 h63
    intro u64 h64
    intro u65 h65
    intro u66 h66
    intro u55 h55
    intro u67 h67
    intro u68 h68
    intro u69 h69
    intro u5 h5
    intro u6 h6
    intro u7 h7
    have hl7 : u7 = .bool true := SY.get (tbl := (tb8n13 gd ge)) (k := .lit (.bool true)) (by kernel_rfl) h7
    subst hl7
    obtain ⟨xb, e5, lo, hI⟩ : KdYS (.idx P13) wz u5 := SY.get (tbl := (tb8n13 gd ge)) (k := .idx P13) (by kernel_rfl) h5
    subst e5
    have HI := Lib.hid hI
    have HKW8 := Lib.hid (HKW.out.trans hC (fun _ _ h => h))
    have K8 := Lib.hid (Kept.refl (fun _ => False) wz)
    clear hI hall HKW h56 h57 h58 h59 h60 h61 h62 h63 h64 h65 h66 h55 h67 h68 h69 h5 h6 h7
    have HKW := HKW8
    simp only [EndsP]
    go_simp
    go_wp2_with fail
    refine (dep13_0 ⟨#[97]⟩ ⟨#[]⟩ _).mono ?_
    rintro e wa0 ⟨rfl, hka⟩
    have KA0 := Lib.hid (K8.out.trans hka (fun _ _ h => h))
    clear hka
    go_wp2_with fail
    refine (providers13_walk (HI.out.quiet KA0.out) P13_fits (by decide) (Nat.lt_trans P13_len (by decide)) (e13 ⟨#[97]⟩ 0 ⟨#[]⟩) (e13_fits _ _ _ (by decide) (by decide) (by decide))).mono ?_
    rintro e wb0 ⟨⟨v0, rfl, ho⟩, hkb⟩
    have KB0 := Lib.hid (KA0.out.trans hkb (fun _ _ h => h))
    rw [P13_s0] at ho
    have HV0 := Lib.hid ((ints_of_own ho).kept ((Kept.refl (fun _ => False) wb0).alloc (.cells #[.int .i64 0, .int .i64 2, .int .i64 3] 3)))
    have HE0 := Lib.hid (ints_lit13 (zs := [0, 2, 3]) (n := 3) (Box.made wb0 3 #[.int .i64 0, .int .i64 2, .int .i64 3]) rfl rfl)
    have KC0 := Lib.hid (KB0.out.alloc (.cells #[.int .i64 0, .int .i64 2, .int .i64 3] 3))
    clear ho hkb
    go_wp2_with fail
    refine (are13_walk _ _ [0, 2, 3] _ HV0.out HE0.out (by decide)).mono ?_
    rintro e wc0 ⟨rfl, hkc⟩
    have KD0 := Lib.hid (KC0.out.trans hkc (fun _ _ h => h))
    clear hkc
    go_wp2_with fail
    refine (dep13_0 ⟨#[97]⟩ ⟨#[]⟩ _).mono ?_
    rintro e wa1 ⟨rfl, hka⟩
    have KA1 := Lib.hid (KD0.out.trans hka (fun _ _ h => h))
    clear hka
    go_wp2_with fail
    refine (named13_walk (HI.out.quiet KA1.out) P13_fits (by decide) (Nat.lt_trans P13_len (by decide)) (e13 ⟨#[97]⟩ 0 ⟨#[]⟩) (e13_fits _ _ _ (by decide) (by decide) (by decide))).mono ?_
    rintro e wb1 ⟨⟨v1, rfl, ho⟩, hkb⟩
    have KB1 := Lib.hid (KA1.out.trans hkb (fun _ _ h => h))
    rw [P13_s1] at ho
    have HV1 := Lib.hid ((ints_of_own ho).kept ((Kept.refl (fun _ => False) wb1).alloc (.cells #[.int .i64 2, .int .i64 3] 3)))
    have HE1 := Lib.hid (ints_lit13 (zs := [2, 3]) (n := 2) (Box.made wb1 3 #[.int .i64 2, .int .i64 3]) rfl rfl)
    have KC1 := Lib.hid (KB1.out.alloc (.cells #[.int .i64 2, .int .i64 3] 3))
    clear ho hkb
    go_wp2_with fail
    refine (are13_walk _ _ [2, 3] _ HV1.out HE1.out (by decide)).mono ?_
    rintro e wc1 ⟨rfl, hkc⟩
    have KD1 := Lib.hid (KC1.out.trans hkc (fun _ _ h => h))
    clear hkc
    go_wp2_with fail
    refine (dep13_2 ⟨#[97]⟩ ⟨#[51]⟩ _).mono ?_
    rintro e wa2 ⟨rfl, hka⟩
    have KA2 := Lib.hid (KD1.out.trans hka (fun _ _ h => h))
    clear hka
    go_wp2_with fail
    refine (providers13_walk (HI.out.quiet KA2.out) P13_fits (by decide) (Nat.lt_trans P13_len (by decide)) (e13 ⟨#[97]⟩ 2 ⟨#[51]⟩) (e13_fits _ _ _ (by decide) (by decide) (by decide))).mono ?_
    rintro e wb2 ⟨⟨v2, rfl, ho⟩, hkb⟩
    have KB2 := Lib.hid (KA2.out.trans hkb (fun _ _ h => h))
    rw [P13_s2] at ho
    have HV2 := Lib.hid ((ints_of_own ho).kept ((Kept.refl (fun _ => False) wb2).alloc (.cells #[.int .i64 3] 3)))
    have HE2 := Lib.hid (ints_lit13 (zs := [3]) (n := 1) (Box.made wb2 3 #[.int .i64 3]) rfl rfl)
    have KC2 := Lib.hid (KB2.out.alloc (.cells #[.int .i64 3] 3))
    clear ho hkb
    go_wp2_with fail
    refine (are13_walk _ _ [3] _ HV2.out HE2.out (by decide)).mono ?_
    rintro e wc2 ⟨rfl, hkc⟩
    have KD2 := Lib.hid (KC2.out.trans hkc (fun _ _ h => h))
    clear hkc
    go_wp2_with fail
    refine (dep13_2 ⟨#[97]⟩ ⟨#[50]⟩ _).mono ?_
    rintro e wa3 ⟨rfl, hka⟩
    have KA3 := Lib.hid (KD2.out.trans hka (fun _ _ h => h))
    clear hka
    go_wp2_with fail
    refine (providers13_walk (HI.out.quiet KA3.out) P13_fits (by decide) (Nat.lt_trans P13_len (by decide)) (e13 ⟨#[97]⟩ 2 ⟨#[50]⟩) (e13_fits _ _ _ (by decide) (by decide) (by decide))).mono ?_
    rintro e wb3 ⟨⟨v3, rfl, ho⟩, hkb⟩
    have KB3 := Lib.hid (KA3.out.trans hkb (fun _ _ h => h))
    rw [P13_s3] at ho
    have HV3 := Lib.hid ((ints_of_own ho).kept ((Kept.refl (fun _ => False) wb3).alloc (.cells #[.int .i64 0, .int .i64 3] 3)))
    have HE3 := Lib.hid (ints_lit13 (zs := [0, 3]) (n := 2) (Box.made wb3 3 #[.int .i64 0, .int .i64 3]) rfl rfl)
    have KC3 := Lib.hid (KB3.out.alloc (.cells #[.int .i64 0, .int .i64 3] 3))
    clear ho hkb
    go_wp2_with fail
    refine (are13_walk _ _ [0, 3] _ HV3.out HE3.out (by decide)).mono ?_
    rintro e wc3 ⟨rfl, hkc⟩
    have KD3 := Lib.hid (KC3.out.trans hkc (fun _ _ h => h))
    clear hkc
    go_wp2_with fail
    refine (dep13_2 ⟨#[98]⟩ ⟨#[49]⟩ _).mono ?_
    rintro e wa4 ⟨rfl, hka⟩
    have KA4 := Lib.hid (KD3.out.trans hka (fun _ _ h => h))
    clear hka
    go_wp2_with fail
    refine (named13_walk (HI.out.quiet KA4.out) P13_fits (by decide) (Nat.lt_trans P13_len (by decide)) (e13 ⟨#[98]⟩ 2 ⟨#[49]⟩) (e13_fits _ _ _ (by decide) (by decide) (by decide))).mono ?_
    rintro e wb4 ⟨⟨v4, rfl, ho⟩, hkb⟩
    have KB4 := Lib.hid (KA4.out.trans hkb (fun _ _ h => h))
    rw [P13_s4] at ho
    have HV4 := Lib.hid ((ints_of_own ho).kept ((Kept.refl (fun _ => False) wb4).alloc (.cells #[.int .i64 0, .int .i64 4] 3)))
    have HE4 := Lib.hid (ints_lit13 (zs := [0, 4]) (n := 2) (Box.made wb4 3 #[.int .i64 0, .int .i64 4]) rfl rfl)
    have KC4 := Lib.hid (KB4.out.alloc (.cells #[.int .i64 0, .int .i64 4] 3))
    clear ho hkb
    go_wp2_with fail
    refine (are13_walk _ _ [0, 4] _ HV4.out HE4.out (by decide)).mono ?_
    rintro e wc4 ⟨rfl, hkc⟩
    have KD4 := Lib.hid (KC4.out.trans hkc (fun _ _ h => h))
    clear hkc
    go_wp2_with fail
    refine (obsoleted13_walk (HI.out.quiet KD4.out) P13_fits (by decide) P13_len 3 TW13 rfl (by decide)).mono ?_
    rintro e wb5 ⟨⟨v5, rfl, ho⟩, hkb⟩
    have KB5 := Lib.hid (KD4.out.trans hkb (fun _ _ h => h))
    rw [P13_s5] at ho
    have HV5 := Lib.hid ((ints_of_own ho).kept ((Kept.refl (fun _ => False) wb5).alloc (.cells #[.int .i64 0, .int .i64 2, .int .i64 4] 3)))
    have HE5 := Lib.hid (ints_lit13 (zs := [0, 2, 4]) (n := 3) (Box.made wb5 3 #[.int .i64 0, .int .i64 2, .int .i64 4]) rfl rfl)
    have KC5 := Lib.hid (KB5.out.alloc (.cells #[.int .i64 0, .int .i64 2, .int .i64 4] 3))
    clear ho hkb
    go_wp2_with fail
    refine (are13_walk _ _ [0, 2, 4] _ HV5.out HE5.out (by decide)).mono ?_
    rintro e wc5 ⟨rfl, hkc⟩
    have KD5 := Lib.hid (KC5.out.trans hkc (fun _ _ h => h))
    clear hkc
    go_wp2_with fail
    refine (obsoleters13_walk (HI.out.quiet KD5.out) P13_fits (by decide) (Nat.lt_trans P13_len2 (by decide)) 2 (nPk ⟨#[97]⟩) rfl).mono ?_
    rintro e wb6 ⟨⟨v6, rfl, ho⟩, hkb⟩
    have KB6 := Lib.hid (KD5.out.trans hkb (fun _ _ h => h))
    rw [P13_s6] at ho
    have HV6 := Lib.hid ((ints_of_own ho).kept ((Kept.refl (fun _ => False) wb6).alloc (.cells #[.int .i64 0, .int .i64 3] 3)))
    have HE6 := Lib.hid (ints_lit13 (zs := [0, 3]) (n := 2) (Box.made wb6 3 #[.int .i64 0, .int .i64 3]) rfl rfl)
    have KC6 := Lib.hid (KB6.out.alloc (.cells #[.int .i64 0, .int .i64 3] 3))
    clear ho hkb
    go_wp2_with fail
    refine (are13_walk _ _ [0, 3] _ HV6.out HE6.out (by decide)).mono ?_
    rintro e wc6 ⟨rfl, hkc⟩
    have KD6 := Lib.hid (KC6.out.trans hkc (fun _ _ h => h))
    clear hkc
    go_wp2_with fail
    refine (obsoleters13_walk (HI.out.quiet KD6.out) P13_fits (by decide) (Nat.lt_trans P13_len2 (by decide)) 3 TW13 rfl).mono ?_
    rintro e wb7 ⟨⟨v7, rfl, ho⟩, hkb⟩
    have KB7 := Lib.hid (KD6.out.trans hkb (fun _ _ h => h))
    rw [P13_s7] at ho
    have HV7 := Lib.hid ((ints_of_own ho).kept ((Kept.refl (fun _ => False) wb7).alloc (.cells #[.int .i64 0] 3)))
    have HE7 := Lib.hid (ints_lit13 (zs := [0]) (n := 1) (Box.made wb7 3 #[.int .i64 0]) rfl rfl)
    have KC7 := Lib.hid (KB7.out.alloc (.cells #[.int .i64 0] 3))
    clear ho hkb
    go_wp2_with fail
    refine (are13_walk _ _ [0] _ HV7.out HE7.out (by decide)).mono ?_
    rintro e wc7 ⟨rfl, hkc⟩
    have KD7 := Lib.hid (KC7.out.trans hkc (fun _ _ h => h))
    clear hkc
    go_wp2_with fail
    refine (obsoleted13_walk (HI.out.quiet KD7.out) P13_fits (by decide) P13_len 0 pkB13 rfl (by decide)).mono ?_
    rintro e wb8 ⟨⟨v8, rfl, ho⟩, hkb⟩
    have KB8 := Lib.hid (KD7.out.trans hkb (fun _ _ h => h))
    rw [P13_s8] at ho
    have HV8 := Lib.hid ((ints_of_own ho).kept ((Kept.refl (fun _ => False) wb8).alloc (.cells #[.int .i64 2, .int .i64 3] 3)))
    have HE8 := Lib.hid (ints_lit13 (zs := [2, 3]) (n := 2) (Box.made wb8 3 #[.int .i64 2, .int .i64 3]) rfl rfl)
    have KC8 := Lib.hid (KB8.out.alloc (.cells #[.int .i64 2, .int .i64 3] 3))
    clear ho hkb
    go_wp2_with fail
    refine (are13_walk _ _ [2, 3] _ HV8.out HE8.out (by decide)).mono ?_
    rintro e wc8 ⟨rfl, hkc⟩
    have KD8 := Lib.hid (KC8.out.trans hkc (fun _ _ h => h))
    clear hkc
    go_wp2_with fail
    refine (dep13_2 ⟨#[47, 102]⟩ ⟨#[49]⟩ _).mono ?_
    rintro e wa9 ⟨rfl, hka⟩
    have KA9 := Lib.hid (KD8.out.trans hka (fun _ _ h => h))
    clear hka
    go_wp2_with fail
    refine (providers13_walk (HI.out.quiet KA9.out) P13_fits (by decide) (Nat.lt_trans P13_len (by decide)) (e13 ⟨#[47, 102]⟩ 2 ⟨#[49]⟩) (e13_fits _ _ _ (by decide) (by decide) (by decide))).mono ?_
    rintro e wb9 ⟨⟨v9, rfl, ho⟩, hkb⟩
    have KB9 := Lib.hid (KA9.out.trans hkb (fun _ _ h => h))
    rw [P13_s9] at ho
    have HV9 := Lib.hid (ints_of_own ho)
    have HE9 := Lib.hid (ints_nil13 wb9)
    have KC9 := KB9
    clear ho hkb
    go_wp2_with fail
    refine (are13_walk _ _ [] _ HV9.out HE9.out (by decide)).mono ?_
    rintro e wc9 ⟨rfl, hkc⟩
    have KD9 := Lib.hid (KC9.out.trans hkc (fun _ _ h => h))
    clear hkc
    go_wp2_with fail
    refine (dep13_0 ⟨#[47, 102]⟩ ⟨#[]⟩ _).mono ?_
    rintro e wa10 ⟨rfl, hka⟩
    have KA10 := Lib.hid (KD9.out.trans hka (fun _ _ h => h))
    clear hka
    go_wp2_with fail
    refine (named13_walk (HI.out.quiet KA10.out) P13_fits (by decide) (Nat.lt_trans P13_len (by decide)) (e13 ⟨#[47, 102]⟩ 0 ⟨#[]⟩) (e13_fits _ _ _ (by decide) (by decide) (by decide))).mono ?_
    rintro e wb10 ⟨⟨v10, rfl, ho⟩, hkb⟩
    have KB10 := Lib.hid (KA10.out.trans hkb (fun _ _ h => h))
    rw [P13_s10] at ho
    have HV10 := Lib.hid (ints_of_own ho)
    have HE10 := Lib.hid (ints_nil13 wb10)
    have KC10 := KB10
    clear ho hkb
    go_wp2_with fail
    refine (are13_walk _ _ [] _ HV10.out HE10.out (by decide)).mono ?_
    rintro e wc10 ⟨rfl, hkc⟩
    have KD10 := Lib.hid (KC10.out.trans hkc (fun _ _ h => h))
    clear hkc
    go_wp2_with fail
    refine (obdl_no13 (HI.out.quiet KD10.out) (-1) (by decide)).mono ?_
    rintro e wb11 ⟨⟨v11, rfl, ho⟩, hkb⟩
    have KB11 := Lib.hid (KD10.out.trans hkb (fun _ _ h => h))
    rw [P13_s11] at ho
    have HV11 := Lib.hid (ints_of_own ho)
    have HE11 := Lib.hid (ints_nil13 wb11)
    have KC11 := KB11
    clear ho hkb
    go_wp2_with fail
    refine (are13_walk _ _ [] _ HV11.out HE11.out (by decide)).mono ?_
    rintro e wc11 ⟨rfl, hkc⟩
    have KD11 := Lib.hid (KC11.out.trans hkc (fun _ _ h => h))
    clear hkc
    go_wp2_with fail
    refine (obdl_no13 (HI.out.quiet KD11.out) (5) (by decide)).mono ?_
    rintro e wb12 ⟨⟨v12, rfl, ho⟩, hkb⟩
    have KB12 := Lib.hid (KD11.out.trans hkb (fun _ _ h => h))
    rw [P13_s12] at ho
    have HV12 := Lib.hid (ints_of_own ho)
    have HE12 := Lib.hid (ints_nil13 wb12)
    have KC12 := KB12
    clear ho hkb
    go_wp2_with fail
    refine (are13_walk _ _ [] _ HV12.out HE12.out (by decide)).mono ?_
    rintro e wc12 ⟨rfl, hkc⟩
    have KD12 := Lib.hid (KC12.out.trans hkc (fun _ _ h => h))
    clear hkc
    go_wp2_with fail
    refine (obrl_no13 (HI.out.quiet KD12.out) (5) (by decide)).mono ?_
    rintro e wb13 ⟨⟨v13, rfl, ho⟩, hkb⟩
    have KB13 := Lib.hid (KD12.out.trans hkb (fun _ _ h => h))
    rw [P13_s13] at ho
    have HV13 := Lib.hid (ints_of_own ho)
    have HE13 := Lib.hid (ints_nil13 wb13)
    have KC13 := KB13
    clear ho hkb
    go_wp2_with fail
    refine (are13_walk _ _ [] _ HV13.out HE13.out (by decide)).mono ?_
    rintro e wc13 ⟨rfl, hkc⟩
    have KD13 := Lib.hid (KC13.out.trans hkc (fun _ _ h => h))
    clear hkc
    go_wp2_with fail
    refine (dep13_0 ⟨#[]⟩ ⟨#[]⟩ _).mono ?_
    rintro e wa14 ⟨rfl, hka⟩
    have KA14 := Lib.hid (KD13.out.trans hka (fun _ _ h => h))
    clear hka
    go_wp2_with fail
    refine (providers13_walk (HI.out.quiet KA14.out) P13_fits (by decide) (Nat.lt_trans P13_len (by decide)) (e13 ⟨#[]⟩ 0 ⟨#[]⟩) (e13_fits _ _ _ (by decide) (by decide) (by decide))).mono ?_
    rintro e wb14 ⟨⟨v14, rfl, ho⟩, hkb⟩
    have KB14 := Lib.hid (KA14.out.trans hkb (fun _ _ h => h))
    rw [P13_s14] at ho
    have HV14 := Lib.hid (ints_of_own ho)
    have HE14 := Lib.hid (ints_nil13 wb14)
    have KC14 := KB14
    clear ho hkb
    go_wp2_with fail
    refine (are13_walk _ _ [] _ HV14.out HE14.out (by decide)).mono ?_
    rintro e wc14 ⟨rfl, hkc⟩
    have KD14 := Lib.hid (KC14.out.trans hkc (fun _ _ h => h))
    clear hkc
    go_wp2_with fail
    refine (dep13_0 ⟨#[122]⟩ ⟨#[]⟩ _).mono ?_
    rintro e wa15 ⟨rfl, hka⟩
    have KA15 := Lib.hid (KD14.out.trans hka (fun _ _ h => h))
    clear hka
    go_wp2_with fail
    refine (providers13_walk (HI.out.quiet KA15.out) P13_fits (by decide) (Nat.lt_trans P13_len (by decide)) (e13 ⟨#[122]⟩ 0 ⟨#[]⟩) (e13_fits _ _ _ (by decide) (by decide) (by decide))).mono ?_
    rintro e wb15 ⟨⟨v15, rfl, ho⟩, hkb⟩
    have KB15 := Lib.hid (KA15.out.trans hkb (fun _ _ h => h))
    rw [P13_s15] at ho
    have HV15 := Lib.hid (ints_of_own ho)
    have HE15 := Lib.hid (ints_nil13 wb15)
    have KC15 := KB15
    clear ho hkb
    go_wp2_with fail
    refine (are13_walk _ _ [] _ HV15.out HE15.out (by decide)).mono ?_
    rintro e wc15 ⟨rfl, hkc⟩
    have KD15 := Lib.hid (KC15.out.trans hkc (fun _ _ h => h))
    clear hkc
    go_wp2_with fail
    go_ret
    exact ⟨rfl, HKW.out.trans KD15.out (fun _ _ h => h)⟩
end Go.Proofs.YtpdoeapjdifmbaaGreatDoor
