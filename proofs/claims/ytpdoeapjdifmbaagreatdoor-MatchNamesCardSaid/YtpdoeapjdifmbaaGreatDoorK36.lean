/-
  Whom a package obsoletes, who obsoletes it (layer 13). An index of a pool, as the laws of layer 13 make it. Conditions: as each theorem states.
-/
import Derived.Test.YtpdoeapjdifmbaaGreatDoorK35
import Derived.Test.YtpdoeapjdifmbaaGreatDoorK28
namespace Go.Proofs.YtpdoeapjdifmbaaGreatDoor
open Go.RowKit Ver Evr Span Dep Rich
open Go.Maps Go.WideMaps
attribute [local go_sem ↓] execOp_loadPq

theorem info_sints13 : (Tryz.prog.info? 34).map (fun i => (i.zero, i.size, i.bytes)) = some (some (.slice none 0 0), 1, 24) := by kernel_rfl
/-- A row of rows of one's own. -/
theorem lst_of_own {w : World} {base : Nat} {v : Value} {us : List (Value × List Int)} (h : w.ownsRow base 34 1 v us.length (us.map Prod.fst)) (hi : ∀ u ∈ us, IntsS w u.1 u.2) : LstS w v us := by
  rcases h.2 with ⟨rfl, h0⟩ | ⟨g, cap, cur, rfl, _⟩
  · exact ⟨none, 0, by rw [h0], fun i u hu => by have := (List.getElem?_eq_some_iff.1 hu).1; omega⟩
  · refine ⟨_, _, rfl, fun i u hu => ⟨g, 0, rfl, (h.lt g rfl).2, ?_, hi u (List.mem_of_getElem? hu)⟩⟩
    rw [Nat.zero_add]
    exact (own_cell h (by rw [List.getElem?_map, hu]; rfl)).1
set_option maxRecDepth 100000 in
set_option maxHeartbeats 16000000 in
theorem obrl_no13 {lo : Nat} {w : World} {xb : Nat} {l : List Pk} (hI : IS lo w xb l) (n : Int) (hn : ¬ (0 ≤ n ∧ n < (l.length : Int))) :
    Calls Tryz.prog 36 #[.pointer (some ⟨xb, 0, none⟩), .int .i64 n] w fun e w' => (∃ v, e = .returned v ∧ w'.ownsInts w.heap.size 3 .i64 v (obrL l n)) ∧ Kept (fun _ => False) w w' := by
  have HZ := Lib.hid (show obrL l n = [] from by
    unfold obrL
    split
    · rename_i h0
      unfold numL
      rw [List.map_eq_nil_iff, List.filter_eq_nil_iff]
      intro m hm hc
      obtain ⟨_, p, q, h1, h2, _⟩ := obsP_some hc
      have := (List.getElem?_eq_some_iff.1 h2).1
      omega
    · rfl)
  have hl : True := trivial
  have hok : True := trivial
  have hdd : decide (0 ≤ n ∧ n < (l.length : Int)) = false := decide_eq_false hn
  have hk1 := (Kept.refl (fun _ => False) w).alloc (.cells #[.pointer (some ⟨xb, 0, none⟩)] 63)
  have hk2 := hk1.alloc (.cells #[.int .i64 n] 3)
  have HX := Lib.hid ((Box.made w 63 #[.pointer (some ⟨xb, 0, none⟩)]).after_alloc (.cells #[.int .i64 n] 3))
  have hN0 := Box.made (w.alloc (.cells #[.pointer (some ⟨xb, 0, none⟩)] 63)) 3 #[.int .i64 n]
  rw [World.size_alloc] at hN0
  have HN := Lib.hid hN0
  have HI := Lib.hid (hI.quiet hk2)
  have HK := Lib.hid hk2
  have HW := Lib.hid hk2.size
  have y0 := HX.out.cell 0
  have y1 := HN.out.cell 0
  clear hk1 hk2 hI hok hl hn hN0
  go_enter Tryz.func36, Tryz.ntmps36
  go_wp2_with fail
  generalize ((w.alloc (.cells #[.pointer (some ⟨xb, 0, none⟩)] 63)).alloc (.cells #[.int .i64 n] 3)) = w2 at HX HN HI HK HW y0 y1 ⊢
  refine (has13_walk HI.out n).mono ?_
  rintro e w3 ⟨rfl, hk3⟩
  rw [hdd]
  have HK3 := Lib.hid (HK.out.trans hk3 (fun _ _ h => h))
  clear hk3 y0 y1 hdd
  go_wp2_with fail
  go_ret
  exact ⟨⟨_, rfl, by rw [HZ.out]; exact World.ownsInts_nil _ _ _ _⟩, HK3.out⟩
set_option maxRecDepth 100000 in
set_option maxHeartbeats 16000000 in
theorem obdl_no13 {lo : Nat} {w : World} {xb : Nat} {l : List Pk} (hI : IS lo w xb l) (n : Int) (hn : ¬ (0 ≤ n ∧ n < (l.length : Int))) :
    Calls Tryz.prog 35 #[.pointer (some ⟨xb, 0, none⟩), .int .i64 n] w fun e w' => (∃ v, e = .returned v ∧ w'.ownsInts w.heap.size 3 .i64 v (obdL l n)) ∧ Kept (fun _ => False) w w' := by
  have HZ := Lib.hid (show obdL l n = [] from by
    unfold obdL
    split
    · rename_i h0
      unfold numL
      rw [List.map_eq_nil_iff, List.filter_eq_nil_iff]
      intro m hm hc
      obtain ⟨_, p, q, h1, h2, _⟩ := obsP_some hc
      have := (List.getElem?_eq_some_iff.1 h1).1
      omega
    · rfl)
  have hl : True := trivial
  have hok : True := trivial
  have hdd : decide (0 ≤ n ∧ n < (l.length : Int)) = false := decide_eq_false hn
  have hk1 := (Kept.refl (fun _ => False) w).alloc (.cells #[.pointer (some ⟨xb, 0, none⟩)] 63)
  have hk2 := hk1.alloc (.cells #[.int .i64 n] 3)
  have HX := Lib.hid ((Box.made w 63 #[.pointer (some ⟨xb, 0, none⟩)]).after_alloc (.cells #[.int .i64 n] 3))
  have hN0 := Box.made (w.alloc (.cells #[.pointer (some ⟨xb, 0, none⟩)] 63)) 3 #[.int .i64 n]
  rw [World.size_alloc] at hN0
  have HN := Lib.hid hN0
  have HI := Lib.hid (hI.quiet hk2)
  have HK := Lib.hid hk2
  have HW := Lib.hid hk2.size
  have y0 := HX.out.cell 0
  have y1 := HN.out.cell 0
  clear hk1 hk2 hI hok hl hn hN0
  go_enter Tryz.func35, Tryz.ntmps35
  go_wp2_with fail
  generalize ((w.alloc (.cells #[.pointer (some ⟨xb, 0, none⟩)] 63)).alloc (.cells #[.int .i64 n] 3)) = w2 at HX HN HI HK HW y0 y1 ⊢
  refine (has13_walk HI.out n).mono ?_
  rintro e w3 ⟨rfl, hk3⟩
  rw [hdd]
  have HK3 := Lib.hid (HK.out.trans hk3 (fun _ _ h => h))
  clear hk3 y0 y1 hdd
  go_wp2_with fail
  go_ret
  exact ⟨⟨_, rfl, by rw [HZ.out]; exact World.ownsInts_nil _ _ _ _⟩, HK3.out⟩
def tbobr13 (l : List Pk) (p : Pk) (n xb m2 g c h0 cu : Nat) (au : Option Addr) : List KdM := [.lit (.func (.func 67) #[] #[.pointer (some ⟨h0, 0, none⟩), .pointer (some ⟨h0 + 1, 0, none⟩)]), .lit (.pointer (some ⟨xb, 0, none⟩)), .lit (.pointer (some ⟨xb, 0, none⟩)), .lit (.pointer (some ⟨xb, 2, none⟩)), .lit (.map (some m2)), .lit (.pointer (some ⟨xb, 0, none⟩)), .lit (.pointer (some ⟨xb, 0, none⟩)), .lit (.pointer (some ⟨xb, 0, none⟩)), .lit (.slice (some ⟨g, 0, none⟩) l.length c), .lit (.int .i64 (n : Int)), .lit (.pointer (some ⟨g, n * 15, none⟩)), .lit (.pointer (some ⟨g, n * 15, none⟩)), .lit (.string p.nm), .lit (.slice au (evI p.nm (evF namesO 0 l)).length cu), .lst ([(.slice au (evI p.nm (evF namesO 0 l)).length cu, (evI p.nm (evF namesO 0 l)))]), .own (h0) ((obrL l (n : Int))), .own (h0) ((obrL l (n : Int)))]
set_option maxRecDepth 100000 in
set_option maxHeartbeats 16000000 in
theorem obsoleters13_walk {lo : Nat} {w : World} {xb : Nat} {l : List Pk} (hI : IS lo w xb l) (hok : ∀ p ∈ l, PkFits p) (hl : l.length < 1000000) (hE : (evF namesO 0 l).length < 1000000) (n : Nat) (p : Pk) (hp : l[n]? = some p) :
    Calls Tryz.prog 36 #[.pointer (some ⟨xb, 0, none⟩), .int .i64 (n : Int)] w fun e w' => (∃ v, e = .returned v ∧ w'.ownsInts w.heap.size 3 .i64 v (obrL l (n : Int))) ∧ Kept (fun _ => False) w w' := by
  have hpn := (hok p (List.mem_of_getElem? hp)).nm
  have hpn2 : p.nm.size ≤ maxLen := by unfold maxLen; omega
  have hnl := (List.getElem?_eq_some_iff.1 hp).1
  have hn0 : (0 : Int) ≤ (n : Int) := by omega
  have hnI : (n : Int) < (l.length : Int) := by omega
  have hdd : decide (0 ≤ (n : Int) ∧ (n : Int) < (l.length : Int)) = true := decide_eq_true ⟨hn0, hnI⟩
  have hle : (evI p.nm (evF namesO 0 l)).length < 1000000 := Nat.lt_of_le_of_lt (evI_len _ _) hE
  have HE := Lib.hid hle
  have HE0 := Lib.hid hE
  have HP := Lib.hid hp
  clear hpn hle hE
  have hk1 := (Kept.refl (fun _ => False) w).alloc (.cells #[.pointer (some ⟨xb, 0, none⟩)] 63)
  have hk2 := hk1.alloc (.cells #[.int .i64 (n : Int)] 3)
  have HX := Lib.hid ((Box.made w 63 #[.pointer (some ⟨xb, 0, none⟩)]).after_alloc (.cells #[.int .i64 (n : Int)] 3))
  have hN0 := Box.made (w.alloc (.cells #[.pointer (some ⟨xb, 0, none⟩)] 63)) 3 #[.int .i64 (n : Int)]
  rw [World.size_alloc] at hN0
  have HN := Lib.hid hN0
  have HI := Lib.hid (hI.quiet hk2)
  have HLL := Lib.hid hl
  have HK := Lib.hid hk2
  have HW := Lib.hid hk2.size
  have HOK := Lib.hid hok
  have y0 := HX.out.cell 0
  have y1 := HN.out.cell 0
  clear hk1 hk2 hI hok hl hN0
  go_enter Tryz.func36, Tryz.ntmps36
  go_wp2_with fail
  generalize ((w.alloc (.cells #[.pointer (some ⟨xb, 0, none⟩)] 63)).alloc (.cells #[.int .i64 (n : Int)] 3)) = w2 at HX HN HI HK HW y0 y1 ⊢
  refine (has13_walk HI.out (n : Int)).mono ?_
  rintro e w3 ⟨rfl, hk3⟩
  rw [hdd]
  obtain ⟨g, c, m1, m2, s, hb, hg, hc, hP⟩ := (HI.out.quiet hk3).at HP.out
  obtain ⟨a', c', m1', m2', au, cu, hb', hu, hlk⟩ := (HI.out.quiet hk3).look2 HE0.out hpn2
  obtain ⟨rfl, rfl⟩ : m1 = m1' ∧ m2 = m2' := by
    have h1 := (hb.cell 1).symm.trans (hb'.cell 1)
    have h2 := (hb.cell 2).symm.trans (hb'.cell 2)
    exact ⟨by simpa using h1, by simpa using h2⟩
  have HX3 := Lib.hid (hk3.box HX.out (fun h => h))
  have HN3 := Lib.hid (hk3.box HN.out (fun h => h))
  have HI3 := Lib.hid (HI.out.quiet hk3)
  have HB := Lib.hid hb
  have HC := Lib.hid (And.intro hg (hc 0 _ rfl))
  have HU := Lib.hid hu
  have HL := Lib.hid hlk
  have HK3 := Lib.hid (HK.out.trans hk3 (fun _ _ h => h))
  have HW3 := Lib.hid (Nat.le_trans HW.out hk3.size)
  clear hb hb' hg hc hP hu hlk hk3 y0 y1 hdd HX HN HI HK HW hpn2
  have HX := HX3
  have HN := HN3
  have HI := HI3
  have HK := HK3
  have HW := HW3
  go_wp2_with fail
  refine wp_region_inv (SM (tbobr13 l p n xb m2 g c w.heap.size cu au)) (fun w1 w2 => Kept (fun _ => False) w1 w2) (fun _ w' => Kept (fun _ => False) w3 w') (by kernel_rfl) (by kernel_rfl) (Kept.refl (fun _ => False) w3).drew (fun j w1 w2 v h hs => SM.kept (tbobr13 l p n xb m2 g c w.heap.size cu au) j w1 w2 v h hs) ⟨OpOK.plain rfl ?r0, OpOK.plain rfl ?r1, OpOK.plain rfl ?r2, OpOK.plain rfl ?r3, OpOK.plain rfl ?r4, OpOK.plain rfl ?r5, OpOK.plain rfl ?r6, OpOK.plain rfl ?r7, OpOK.plain rfl ?r8, OpOK.plain rfl ?r9, OpOK.plain rfl ?r10, OpOK.plain rfl ?r11, OpOK.plain rfl ?r12, OpOK.plain rfl ?r13, OpOK.plain rfl ?r14, OpOK.plain rfl ?r15, OpOK.plain rfl ?r16, trivial⟩ ?rend
  case r0 =>
    intro ls a wz hC hz hnew hwait hs hd K hK
    obtain ⟨t2, t2'⟩ := tmp_both (hs 2 _ (by kernel_rfl) rfl)
    obtain ⟨t3, t3'⟩ := tmp_both (hs 3 _ (by kernel_rfl) rfl)
    clear hs hd
    go_simp
    exact hK _ _ (Kept.refl (fun _ => False) wz) hC (fun _ => SM.pl (by kernel_rfl))
  case r1 =>
    intro ls a wz hC hz hnew hwait hs hd K hK
    obtain ⟨t2, t2'⟩ := tmp_both (hs 2 _ (by kernel_rfl) rfl)
    have kx := (hC.box HX.out (fun h => h)).cell 0
    clear hs hd
    go_simp
    exact hK _ _ (Kept.refl (fun _ => False) wz) hC (fun _ => SM.pl (by kernel_rfl))
  case r2 =>
    intro ls a wz hC hz hnew hwait hs hd K hK
    obtain ⟨d1, d1'⟩ := SM.lt (.pointer (some ⟨xb, 0, none⟩)) (hd 1 10 (by kernel_rfl) (by kernel_rfl)) (by kernel_rfl)
    clear hs hd
    go_simp
    exact hK _ _ (Kept.refl (fun _ => False) wz) hC (fun _ => SM.pl (by kernel_rfl))
  case r3 =>
    intro ls a wz hC hz hnew hwait hs hd K hK
    obtain ⟨d2, d2'⟩ := SM.lt (.pointer (some ⟨xb, 0, none⟩)) (hd 2 11 (by kernel_rfl) (by kernel_rfl)) (by kernel_rfl)
    clear hs hd
    go_simp
    exact hK _ _ (Kept.refl (fun _ => False) wz) hC (fun _ => SM.pl (by kernel_rfl))
  case r4 =>
    intro ls a wz hC hz hnew hwait hs hd K hK
    obtain ⟨d3, d3'⟩ := SM.lt (.pointer (some ⟨xb, 2, none⟩)) (hd 3 12 (by kernel_rfl) (by kernel_rfl)) (by kernel_rfl)
    have km := (hC.box HB.out (fun h => h)).cell 2
    clear hs hd
    go_simp
    exact hK _ _ (Kept.refl (fun _ => False) wz) hC (fun _ => SM.pl (by kernel_rfl))
  case r5 =>
    intro ls a wz hC hz hnew hwait hs hd K hK
    obtain ⟨t2, t2'⟩ := tmp_both (hs 2 _ (by kernel_rfl) rfl)
    have kx := (hC.box HX.out (fun h => h)).cell 0
    clear hs hd
    go_simp
    exact hK _ _ (Kept.refl (fun _ => False) wz) hC (fun _ => SM.pl (by kernel_rfl))
  case r6 =>
    intro ls a wz hC hz hnew hwait hs hd K hK
    obtain ⟨d5, d5'⟩ := SM.lt (.pointer (some ⟨xb, 0, none⟩)) (hd 5 14 (by kernel_rfl) (by kernel_rfl)) (by kernel_rfl)
    clear hs hd
    go_simp
    exact hK _ _ (Kept.refl (fun _ => False) wz) hC (fun _ => SM.pl (by kernel_rfl))
  case r7 =>
    intro ls a wz hC hz hnew hwait hs hd K hK
    obtain ⟨d6, d6'⟩ := SM.lt (.pointer (some ⟨xb, 0, none⟩)) (hd 6 15 (by kernel_rfl) (by kernel_rfl)) (by kernel_rfl)
    clear hs hd
    go_simp
    exact hK _ _ (Kept.refl (fun _ => False) wz) hC (fun _ => SM.pl (by kernel_rfl))
  case r8 =>
    intro ls a wz hC hz hnew hwait hs hd K hK
    obtain ⟨d7, d7'⟩ := SM.lt (.pointer (some ⟨xb, 0, none⟩)) (hd 7 16 (by kernel_rfl) (by kernel_rfl)) (by kernel_rfl)
    have km := (hC.box HB.out (fun h => h)).cell 0
    clear hs hd
    go_simp
    exact hK _ _ (Kept.refl (fun _ => False) wz) hC (fun _ => SM.pl (by kernel_rfl))
  case r9 =>
    intro ls a wz hC hz hnew hwait hs hd K hK
    obtain ⟨t3, t3'⟩ := tmp_both (hs 3 _ (by kernel_rfl) rfl)
    have kn := (hC.box HN.out (fun h => h)).cell 0
    clear hs hd
    go_simp
    exact hK _ _ (Kept.refl (fun _ => False) wz) hC (fun _ => SM.pl (by kernel_rfl))
  case r10 =>
    intro ls a wz hC hz hnew hwait hs hd K hK
    obtain ⟨d8, d8'⟩ := SM.lt (.slice (some ⟨g, 0, none⟩) l.length c) (hd 8 17 (by kernel_rfl) (by kernel_rfl)) (by kernel_rfl)
    obtain ⟨d9, d9'⟩ := SM.lt (.int .i64 (n : Int)) (hd 9 18 (by kernel_rfl) (by kernel_rfl)) (by kernel_rfl)
    clear hs hd
    go_simp
    exact hK _ _ (Kept.refl (fun _ => False) wz) hC (fun _ => SM.pl (by kernel_rfl))
  case r11 =>
    intro ls a wz hC hz hnew hwait hs hd K hK
    obtain ⟨d10, d10'⟩ := SM.lt (.pointer (some ⟨g, n * 15, none⟩)) (hd 10 19 (by kernel_rfl) (by kernel_rfl)) (by kernel_rfl)
    clear hs hd
    go_simp
    exact hK _ _ (Kept.refl (fun _ => False) wz) hC (fun _ => SM.pl (by kernel_rfl))
  case r12 =>
    intro ls a wz hC hz hnew hwait hs hd K hK
    obtain ⟨d11, d11'⟩ := SM.lt (.pointer (some ⟨g, n * 15, none⟩)) (hd 11 20 (by kernel_rfl) (by kernel_rfl)) (by kernel_rfl)
    have kc := (hC.cell (p := ⟨g, n * 15, none⟩) HC.out.1 (fun h => h)).trans HC.out.2
    clear hs hd
    go_simp
    exact hK _ _ (Kept.refl (fun _ => False) wz) hC (fun _ => SM.pl (by kernel_rfl))
  case r13 =>
    intro ls a wz hC hz hnew hwait hs hd K hK
    obtain ⟨d4, d4'⟩ := SM.lt (.map (some m2)) (hd 4 13 (by kernel_rfl) (by kernel_rfl)) (by kernel_rfl)
    obtain ⟨d12, d12'⟩ := SM.lt (.string p.nm) (hd 12 21 (by kernel_rfl) (by kernel_rfl)) (by kernel_rfl)
    clear hs hd
    refine oper_lookup (.tmp 13) (.tmp 21) 77 22 rfl rfl d4 d12 (HL.out wz hC) ?_
    exact hK _ _ (Kept.refl _ _) hC (fun _ => SM.mk (tbl := (tbobr13 l p n xb m2 g c w.heap.size cu au)) (k := .lit (.slice au (evI p.nm (evF namesO 0 l)).length cu)) (by kernel_rfl) rfl)
  case r14 =>
    intro ls a wz hC hz hnew hwait hs hd K hK
    obtain ⟨d13, d13'⟩ := SM.lt (.slice au (evI p.nm (evF namesO 0 l)).length cu) (hd 13 22 (by kernel_rfl) (by kernel_rfl)) (by kernel_rfl)
    have hui := HU.out.kept hC
    clear hs hd
    go_simp
    exact hK _ _ ((Kept.refl (fun _ => False) wz).alloc _) (hC.alloc _) (fun _ => SM.mk (tbl := (tbobr13 l p n xb m2 g c w.heap.size cu au)) (k := .lst [(.slice au (evI p.nm (evF namesO 0 l)).length cu, (evI p.nm (evF namesO 0 l)))]) (by kernel_rfl) (lst_one hui))
  case r15 =>
    intro ls a wz hC hz hnew hwait hs hd K hK
    obtain ⟨d0, d0'⟩ := SM.lt (.func (.func 67) #[] #[.pointer (some ⟨w.heap.size, 0, none⟩), .pointer (some ⟨w.heap.size + 1, 0, none⟩)]) (hd 0 9 (by kernel_rfl) (by kernel_rfl)) (by kernel_rfl)
    obtain ⟨v14, d14, hv14⟩ := hd 14 23 (by kernel_rfl) (by kernel_rfl)
    have hq14 : LstS wz v14 ([(.slice au (evI p.nm (evF namesO 0 l)).length cu, (evI p.nm (evF namesO 0 l)))]) := SM.get (k := .lst ([(.slice au (evI p.nm (evF namesO 0 l)).length cu, (evI p.nm (evF namesO 0 l)))])) (by kernel_rfl) hv14
    obtain ⟨ao14, cp14, e14, hc14⟩ := id hq14
    subst e14
    obtain ⟨-, d14'⟩ := tmp_both d14
    clear hv14
    clear hs hd
    go_simp
    refine (which13_walk 67 #[.pointer (some ⟨w.heap.size, 0, none⟩), .pointer (some ⟨w.heap.size + 1, 0, none⟩)] (fun _ _ => by kernel_rfl) (onI fun m => obsP l m n) [(.slice au (evI p.nm (evF namesO 0 l)).length cu, (evI p.nm (evF namesO 0 l)))] _ wz hq14 (fun u hu z hz => ?wf) (by simp) (by have := HE.out; simp [flatL]; omega) (fun x hx W hk => ?cl)).mono ?_
    case wf =>
      obtain rfl : u = (.slice au (evI p.nm (evF namesO 0 l)).length cu, (evI p.nm (evF namesO 0 l))) := by simpa using hu
      obtain ⟨i, rfl, hi⟩ := evI_small z hz
      exact wf_small13 (by have := HLL.out; omega)
    case cl =>
      have hx' : x ∈ (evI p.nm (evF namesO 0 l)) := by simpa [flatL] using hx
      obtain ⟨i, q, rfl, hq, _⟩ := evI_mem.1 hx'
      have hkW := hC.trans hk (fun _ _ h => h)
      have h := obr1_walk (HI.out.quiet hkW) HOK.out n i p q HP.out hq w.heap.size (w.heap.size + 1) (hkW.box HX.out (fun h => h)) (hkW.box HN.out (fun h => h))
      simpa [onI] using h
    rintro e wv ⟨⟨v', rfl, ho⟩, hkv⟩
    have ho' : wv.ownsInts w.heap.size 3 .i64 v' (obrL l (n : Int)) := by
      have h := own_less13 ho (b := w.heap.size) (Nat.le_trans HW.out hC.size)
      have e1 : flatL [(.slice au (evI p.nm (evF namesO 0 l)).length cu, (evI p.nm (evF namesO 0 l)))] = (evI p.nm (evF namesO 0 l)) := by simp [flatL]
      rw [e1, obr_nums l n p HP.out] at h
      exact h
    exact hK _ _ hkv (hC.trans hkv (fun _ _ h => h)) (fun _ => SM.mk (tbl := (tbobr13 l p n xb m2 g c w.heap.size cu au)) (k := .own (w.heap.size) ((obrL l (n : Int)))) (by kernel_rfl) ho')
  case r16 =>
    intro ls a wz hC hz hnew hwait hs hd K hK
    obtain ⟨v15, d15, hv15⟩ := hd 15 24 (by kernel_rfl) (by kernel_rfl)
    have hq15 : wz.ownsInts (w.heap.size) 3 .i64 v15 ((obrL l (n : Int))) := SM.get (k := .own (w.heap.size) ((obrL l (n : Int)))) (by kernel_rfl) hv15
    obtain ⟨ao15, cp15, e15⟩ := own_form hq15.1
    subst e15
    obtain ⟨-, d15'⟩ := tmp_both d15
    clear hv15
    clear hs hd
    go_simp
    exact hK _ _ (Kept.refl (fun _ => False) wz) hC (fun _ => SM.mk (tbl := (tbobr13 l p n xb m2 g c w.heap.size cu au)) (k := .own (w.heap.size) ((obrL l (n : Int)))) (by kernel_rfl) hq15)
  case rend =>
    intro ls wz hall hC
    intro u9 h9
    intro u10 h10
    intro u11 h11
    intro u12 h12
    intro u13 h13
    intro u14 h14
    intro u15 h15
    intro u16 h16
    intro u17 h17
    intro u18 h18
    intro u19 h19
    intro u20 h20
    intro u21 h21
    intro u22 h22
    intro u23 h23
    intro u24 h24
    intro u4 h4
    have hfin : wz.ownsInts w.heap.size 3 .i64 u4 (obrL l (n : Int)) := SM.get (tbl := (tbobr13 l p n xb m2 g c w.heap.size cu au)) (k := .own (w.heap.size) ((obrL l (n : Int)))) (by kernel_rfl) h4
    clear hall h9 h10 h11 h12 h13 h14 h15 h16 h17 h18 h19 h20 h21 h22 h23 h24 h4
    simp only [EndsP]
    go_simp
    go_wp2_with fail
    go_ret
    exact ⟨⟨u4, rfl, hfin⟩, HK.out.trans hC (fun _ _ h => h)⟩
def lookMq13 (m k : Value) : Sem Next := do pure (.value (← Instr.lookup 77 m k false))
theorem execOp_lookMq13 (ρ : Operand → Value) (dst : Option Tmp) (m x : Operand) (ty : TypeId) (pos : String) (after : Array Edge) (guard : Option (Nat × Bool)) :
    execOp ρ { dst, op := .lookup 77 m x false, type := ty, pos, after, guard } = lookMq13 (ρ m) (ρ x) := rfl
theorem run_lookMq13 {w : World} {m k v : Value} (h : (Instr.lookup 77 m k false).run Tryz.prog w = .ok v w) : (lookMq13 m k).run Tryz.prog w = .ok (.value v) w := by
  unfold lookMq13
  simp [h, Result.andThen]
attribute [local go_sem ↓] execOp_lookMq13
theorem one_news13 {w : World} {u : Value} {t : TypeId} : ∀ (j : Nat) (x : Value), [u][j]? = some x → ((w.alloc (.cells #[u] t)).drew).cell? ((⟨w.heap.size, 0, none⟩ : Addr).add j) = some x := by
  intro j x hx
  cases j with
  | zero =>
    have h : u = x := by simpa using hx
    subst h
    exact ((Kept.drew (Kept.refl (fun _ => False) (w.alloc (.cells #[u] t)))).box (Box.made w t #[u]) (fun h => h)).cell 0
  | succ j => simp at hx
theorem flat_len13 {L : List (ByteArray × Nat)} {k : Nat} (hL : L.length < k) (hk : 0 < k) : ∀ l : List De, (l.flatMap fun d => evI d.nm L).length ≤ l.length * k
  | [] => by simp
  | d :: l => by
    have h1 := evI_len d.nm L
    have h2 := flat_len13 hL hk l
    rw [List.flatMap_cons, List.length_append, List.length_cons, Nat.add_mul, Nat.one_mul]
    omega
set_option maxRecDepth 100000 in
set_option maxHeartbeats 16000000 in
theorem obsoleted13_walk {lo : Nat} {w : World} {xb : Nat} {l : List Pk} (hI : IS lo w xb l) (hok : ∀ p ∈ l, PkFits p) (hl : l.length < 1000000) (hE : (evF namesP 0 l).length < 30000) (n : Nat) (p : Pk) (hp : l[n]? = some p) (hob : p.ob.length ≤ 32) :
    Calls Tryz.prog 35 #[.pointer (some ⟨xb, 0, none⟩), .int .i64 (n : Int)] w fun e w' => (∃ v, e = .returned v ∧ w'.ownsInts w.heap.size 3 .i64 v (obdL l (n : Int))) ∧ Kept (fun _ => False) w w' := by
  have hnl := (List.getElem?_eq_some_iff.1 hp).1
  have hn0 : (0 : Int) ≤ (n : Int) := by omega
  have hnI : (n : Int) < (l.length : Int) := by omega
  have hdd : decide (0 ≤ (n : Int) ∧ (n : Int) < (l.length : Int)) = true := decide_eq_true ⟨hn0, hnI⟩
  have HE0 := Lib.hid hE
  have HP := Lib.hid hp
  have HOB := Lib.hid hob
  have hsm : p.ob.length < 1000000 := by omega
  clear hE hob
  have hk1 := (Kept.refl (fun _ => False) w).alloc (.cells #[.pointer (some ⟨xb, 0, none⟩)] 63)
  have hk2 := hk1.alloc (.cells #[.int .i64 (n : Int)] 3)
  have HX := Lib.hid ((Box.made w 63 #[.pointer (some ⟨xb, 0, none⟩)]).after_alloc (.cells #[.int .i64 (n : Int)] 3))
  have hN0 := Box.made (w.alloc (.cells #[.pointer (some ⟨xb, 0, none⟩)] 63)) 3 #[.int .i64 (n : Int)]
  rw [World.size_alloc] at hN0
  have HN := Lib.hid hN0
  have HI := Lib.hid (hI.quiet hk2)
  have HLL := Lib.hid hl
  have HK := Lib.hid hk2
  have HW := Lib.hid hk2.size
  have HOK := Lib.hid hok
  have y0 := HX.out.cell 0
  have y1 := HN.out.cell 0
  clear hk1 hk2 hI hok hl hN0
  go_enter Tryz.func35, Tryz.ntmps35
  go_wp2_with fail
  generalize ((w.alloc (.cells #[.pointer (some ⟨xb, 0, none⟩)] 63)).alloc (.cells #[.int .i64 (n : Int)] 3)) = w2 at HX HN HI HK HW y0 y1 ⊢
  refine (has13_walk HI.out (n : Int)).mono ?_
  rintro e w3 ⟨rfl, hk3⟩
  rw [hdd]
  obtain ⟨g, c, m1, m2, s, hb, hg, hc, hP⟩ := (HI.out.quiet hk3).at HP.out
  have hDS : DesS w3 s.s7 p.ob := hP.ob
  have hc9 : w3.cell? ⟨g, n * 15 + 9, none⟩ = some s.s7 := hc 9 _ rfl
  obtain ⟨a7, c7, e7, _⟩ := id hDS
  rw [e7] at hDS hc9
  have HX3 := Lib.hid (hk3.box HX.out (fun h => h))
  have HN3 := Lib.hid (hk3.box HN.out (fun h => h))
  have HI3 := Lib.hid (HI.out.quiet hk3)
  have HD := Lib.hid hDS
  have HC9 := Lib.hid (And.intro hg hc9)
  have HK3 := Lib.hid (HK.out.trans hk3 (fun _ _ h => h))
  have HW3 := Lib.hid (Nat.le_trans HW.out hk3.size)
  have HB := Lib.hid hb
  clear hb hg hc hP hk3 y0 y1 hdd HX HN HI HK HW hDS hc9 e7 hp
  have HX := HX3
  have HN := HN3
  have HI := HI3
  have HK := HK3
  have HW := HW3
  clear HX3 HN3 HI3 HK3 HW3
  go_wp2_with fail
  obtain ⟨T, F, t0, ht0, hFk, hFs⟩ := class_of w3
  have lX := fun t => ((hFk t).box HX.out (fun h => h)).cell 0
  have lN := fun t => ((hFk t).box HN.out (fun h => h)).cell 0
  have lB := fun t => ((hFk t).box HB.out (fun h => h)).cell 0
  have l9 := fun t => ((hFk t).cell (p := ⟨g, n * 15 + 9, none⟩) HC9.out.1 (fun h => h)).trans HC9.out.2
  have HFK := Lib.hid hFk
  have HFS := Lib.hid hFs
  have hnt : Nonempty T := ⟨t0⟩
  clear hFk hFs
  refine wp_region_class F t0 ht0 (by kernel_rfl) (by kernel_rfl) ?_
  repeat (go_big_quiet_step (fail))
  refine wpQuiet_nil ?_
  rintro _ ⟨tz, rfl⟩
  have HKZ := Lib.hid (HFK.out tz)
  clear lX lN lB l9
  generalize F tz = w4 at HKZ ⊢
  clear HFK HFS hnt
  go_wp2_with fail
  go_loopw [5, 21] (fun v5 v21 wr => ∃ (i : Nat) (a5 : Option Addr) (c5 : Nat) (us : List (Value × List Int)), v5 = .slice a5 us.length c5 ∧ v21 = .int .i64 (i : Int) ∧ i ≤ p.ob.length ∧ Hid (us.length = i ∧ Kept (fun _ => False) w3 wr ∧ wr.ownsRow w3.heap.size 34 1 (.slice a5 us.length c5) us.length (us.map Prod.fst) ∧ (∀ u ∈ us, IntsS w3 u.1 u.2) ∧ flatL us = (p.ob.take i).flatMap fun d => evI d.nm (evF namesP 0 l))) (fun _ v21 _ => p.ob.length - (intOf v21).toNat)
  case atStart => exact ⟨0, none, 0, [], rfl, rfl, Nat.zero_le _, Lib.hid ⟨rfl, HKZ.out, World.ownsRow_nil _ _ _ _, by simp, by simp [flatL]⟩⟩
  case round =>
  obtain ⟨i, a5, c5, us, rfl, rfl, hi, HR⟩ := hrel
  rename World => wr
  by_cases hlt : i < p.ob.length
  · have hi0 : (0 : Int) ≤ (i : Int) := by omega
    have hiI : (i : Int) < (p.ob.length : Int) := by omega
    obtain ⟨e, he⟩ : ∃ e, p.ob[i]? = some e := ⟨_, List.getElem?_eq_getElem hlt⟩
    obtain ⟨_, b, off, hao, hb, c0, c1, c2, c3, c4⟩ := (HD.out.kept HR.out.2.1).at he
    subst hao
    have hem := List.mem_of_getElem? he
    have hen : e.nm.size ≤ maxLen := by
      have := (HOK.out p (List.mem_of_getElem? HP.out)).ob e hem
      have h1 := this.1
      unfold maxLen
      omega
    obtain ⟨_, _, m1', _, au, cu, hbx, hui, hlk⟩ := HI.out.look1 (Nat.lt_trans HE0.out (by decide)) hen
    obtain rfl : m1 = m1' := by
      have h1 := (HB.out.cell 1).symm.trans (hbx.cell 1)
      simpa using h1
    have hkq := HR.out.2.1.alloc (.cells #[.string e.nm, .int .u8 (e.o : Int), .int .i64 e.n, .string e.v, .string e.r] 60)
    have HBD := Lib.hid (Box.made wr 60 #[.string e.nm, .int .u8 (e.o : Int), .int .i64 e.n, .string e.v, .string e.r])
    have HKQ := Lib.hid hkq
    have HROW := Lib.hid (HR.out.2.2.1.alloc (.cells #[.string e.nm, .int .u8 (e.o : Int), .int .i64 e.n, .string e.v, .string e.r] 60))
    have HFL := Lib.hid (And.intro HR.out.1 (And.intro HR.out.2.2.2.1 HR.out.2.2.2.2))
    have HUI := Lib.hid hui
    have HEE := Lib.hid he
    have HLK := Lib.hid hlk
    clear he hem hen hbx hui hlk hkq hb HR
    go_wp2_with fail
    generalize wr.alloc (.cells #[.string e.nm, .int .u8 (e.o : Int), .int .i64 e.n, .string e.v, .string e.r] 60) = wq at HBD HKQ HROW ⊢
    clear c0 c1 c2 c3 c4
    have yx := (HKQ.out.box HX.out (fun h => h)).cell 0
    have yb := (HKQ.out.box HB.out (fun h => h)).cell 1
    have ye := HBD.out.cell 0
    have yl := run_lookMq13 (HLK.out wq.drew (Kept.drew HKQ.out))
    obtain ⟨i0, z0f, z00, z01, z02⟩ := info_get12 info_sints13
    have hlen : us.length < 1000000 := by
      have h1 := HFL.out.1
      have h2 := HOB.out
      omega
    have hbase : w3.heap.size ≤ wq.heap.size := HKQ.out.size
    skip
    go_region_law ((first
      | (rw [if_pos (by rfl)]
         refine oper_append_at (.tmp 25) (.tmp 33) 96 34 rfl w3.heap.size 34 i0 (.slice none 0 0) 1 24 Tryz.underlying96 z0f z00 z01 z02 rfl (by decide) (.slice a5 us.length c5) us.length (us.map Prod.fst) rfl ((Kept.drew (Kept.refl (fun _ => False) _)).owns (HROW.out.alloc _) (fun _ _ h => h)) ⟨wq.heap.size, 0, none⟩ 1 1 [.slice au (evI e.nm (evF namesP 0 l)).length cu] rfl rfl one_news13 (by intro u hu; rw [List.mem_singleton.1 hu]; rfl) (by unfold maxLen; omega) (by omega) (Nat.le_trans hbase (by show _ ≤ (wq.alloc _).heap.size; rw [World.size_alloc]; omega)) rfl ?_
         intro v9 w9 hown9 hgrow9 _
         obtain ⟨a9, c9, e9⟩ := own_form hown9
         subst e9
         have HR9 := Lib.hid hown9
         have HK9 := Lib.hid (Kept.grown (Kept.drew (HKQ.out.alloc _)) hgrow9 (fun i hi => .inr (HROW.out.lt i hi).1))
         clear hown9 hgrow9)
      | fail))
    all_goals go_wp2_with fail
    all_goals go_roundw
    all_goals first
      | (simp [intOf]; omega; done)
      | (refine ⟨i + 1, a9, c9, us ++ [(.slice au (evI e.nm (evF namesP 0 l)).length cu, (evI e.nm (evF namesP 0 l)))], by simp, by go_num, by omega, Lib.hid ⟨by rw [List.length_append, HFL.out.1]; rfl, HK9.out, ?_, ?_, ?_⟩⟩
         · have h9 := HR9.out
           rw [List.length_append, List.map_append]
           exact h9
         · intro u hu
           rcases List.mem_append.1 hu with hu | hu
           · exact HFL.out.2.1 u hu
           · rw [List.mem_singleton.1 hu]
             exact HUI.out
         · have e9 : flatL (us ++ [(.slice au (evI e.nm (evF namesP 0 l)).length cu, (evI e.nm (evF namesP 0 l)))]) = flatL us ++ (evI e.nm (evF namesP 0 l)) := by simp [flatL]
           rw [e9, HFL.out.2.2, List.take_add_one, HEE.out, Option.toList_some, List.flatMap_append]
           simp)
  · obtain rfl : i = p.ob.length := by omega
    have hge : ¬ (p.ob.length : Int) < (p.ob.length : Int) := by omega
    have hR := HR.out
    rw [List.take_length] at hR
    have HRR := Lib.hid hR
    have hus : LstS wr (.slice a5 us.length c5) us := lst_of_own hR.2.2.1 (fun u hu => (hR.2.2.2.1 u hu).kept hR.2.1)
    have hln := flat_len13 HE0.out (by decide) p.ob
    have hlf : (flatL us).length < 1000000 := by
      rw [hR.2.2.2.2]
      have := HOB.out
      omega
    have hlu : us.length < 1000000 := by
      have h1 := hR.1
      have := HOB.out
      omega
    have HUS := Lib.hid hus
    have HLF := Lib.hid hlf
    have HLU := Lib.hid hlu
    clear hlt hi HR hR hus hln hlf hlu
    go_wp2_with fail
    refine (which13_walk 65 #[.pointer (some ⟨w.heap.size, 0, none⟩), .pointer (some ⟨w.heap.size + 1, 0, none⟩)] (fun _ _ => by kernel_rfl) (onI fun m => obsP l n m) us _ wr HUS.out (fun u hu z hz => ?wf) HLU.out HLF.out (fun x hx W hk => ?cl)).mono ?_
    case wf =>
      have hx' : z ∈ flatL us := by unfold flatL; exact List.mem_flatMap.2 ⟨u, hu, hz⟩
      rw [HRR.out.2.2.2.2] at hx'
      obtain ⟨d, _, hx'⟩ := List.mem_flatMap.1 hx'
      obtain ⟨i, rfl, hi⟩ := evI_small z hx'
      exact wf_small13 (by have := HLL.out; omega)
    case cl =>
      have hx' := hx
      rw [HRR.out.2.2.2.2] at hx'
      obtain ⟨d, _, hx'⟩ := List.mem_flatMap.1 hx'
      obtain ⟨i, q, rfl, hq, _⟩ := evI_mem.1 hx'
      have hkW := HRR.out.2.1.trans hk (fun _ _ h => h)
      have h := obd1_walk (HI.out.quiet hkW) HOK.out n i p q HP.out hq w.heap.size (w.heap.size + 1) (hkW.box HX.out (fun h => h)) (hkW.box HN.out (fun h => h))
      simpa [onI] using h
    rintro e wv ⟨⟨v', rfl, ho⟩, hkv⟩
    have ho' : wv.ownsInts w.heap.size 3 .i64 v' (obdL l (n : Int)) := by
      have h := own_less13 ho (b := w.heap.size) (Nat.le_trans HW.out HRR.out.2.1.size)
      rw [HRR.out.2.2.2.2, obd_nums l n p HP.out] at h
      exact h
    have HO := Lib.hid ho'
    have HKF := Lib.hid ((HK.out.trans HRR.out.2.1 (fun _ _ h => h)).trans hkv (fun _ _ h => h))
    clear ho ho' hkv
    go_wp2_with fail
    go_ret
    exact ⟨⟨v', rfl, HO.out⟩, HKF.out⟩
end Go.Proofs.YtpdoeapjdifmbaaGreatDoor

namespace Go.Proofs.YtpdoeapjdifmbaaGreatDoor
open Go.RowKit Ver Evr Span Dep Rich
open Go.Maps Go.WideMaps

/-- How many names there are in what may be. -/
theorem names_few13 {p : Pk} (h : mayB p = true) : (namesP p).length ≤ 65 ∧ p.ob.length ≤ 32 := by
  unfold mayB at h
  simp only [Bool.and_eq_true] at h
  obtain ⟨⟨⟨⟨_, hp⟩, ho⟩, _⟩, hf⟩ := h
  unfold depsB at hp ho
  unfold filesB at hf
  simp only [Bool.and_eq_true, decide_eq_true_iff] at hp ho hf
  refine ⟨?_, ho.1⟩
  unfold namesP
  simp only [List.length_cons, List.length_append, List.length_map]
  have h1 := hp.1
  have h2 := hf.1
  omega
theorem evF_few13 {f : Pk → List ByteArray} {k : Nat} : ∀ (l : List Pk) (n : Nat), (∀ p ∈ l, (f p).length ≤ k) → (evF f n l).length ≤ l.length * k
  | [], n, _ => by simp [evF]
  | p :: l, n, h => by
    have h1 := h p (List.mem_cons_self ..)
    have h2 := evF_few13 l (n + 1) (fun q hq => h q (List.mem_cons_of_mem _ hq))
    rw [evF, List.length_append, List.length_map, List.length_cons, Nat.add_mul, Nat.one_mul]
    omega
/-- All that a valid pool has. -/
def pksN (I : List Pk) (l : List Rp) : List Pk := (itemsN I l).map fun x => x.1
/-- What a law knows of an index and its pool. -/
structure Ok13 (I : List Pk) (l : List Rp) (ps : List Pk) : Prop where
  eq : ps = pksN I l
  fits : ∀ p ∈ ps, PkFits p
  may : ∀ p ∈ ps, mayB p = true
  few : ps.length ≤ 256
theorem Ok13.e1 {I : List Pk} {l : List Rp} {ps : List Pk} (h : Ok13 I l ps) : (evF namesP 0 ps).length < 30000 := by
  have h1 := evF_few13 (f := namesP) (k := 65) ps 0 (fun p hp => (names_few13 (h.may p hp)).1)
  have h2 := h.few
  omega
theorem Ok13.e2 {I : List Pk} {l : List Rp} {ps : List Pk} (h : Ok13 I l ps) : (evF namesO 0 ps).length < 30000 := by
  have h1 := evF_few13 (f := namesO) (k := 32) ps 0 (fun p hp => by unfold namesO; rw [List.length_map]; exact (names_few13 (h.may p hp)).2)
  have h2 := h.few
  omega
theorem itemsR_mem13 : ∀ (l : List Rp) (k : Nat) (x : Pk × Int × Int), x ∈ itemsR k l → ∃ r ∈ l, x.1 ∈ r.2
  | [], k, x, h => by simp [itemsR] at h
  | r :: l, k, x, h => by
    rw [itemsR, List.mem_append] at h
    rcases h with h | h
    · obtain ⟨p, hp, rfl⟩ := List.mem_map.1 h
      exact ⟨r, List.mem_cons_self .., hp⟩
    · obtain ⟨r', h1, h2⟩ := itemsR_mem13 l (k + 1) x h
      exact ⟨r', List.mem_cons_of_mem _ h1, h2⟩
theorem ok13_of {I : List Pk} {l : List Rp} (hL : largeN l I = false) (hv : validN mayB I l = true) (hO : ∀ p, (p ∈ I ∨ ∃ r ∈ l, p ∈ r.2) → PkFits p) : Ok13 I l (pksN I l) := by
  have hmem : ∀ p ∈ pksN I l, p ∈ I ∨ ∃ r ∈ l, p ∈ r.2 := fun p hp => by
    unfold pksN itemsN at hp
    rw [List.map_append, List.mem_append] at hp
    rcases hp with hp | hp
    · obtain ⟨x, hx, rfl⟩ := List.mem_map.1 hp
      obtain ⟨q, hq, rfl⟩ := List.mem_map.1 hx
      exact .inl hq
    · obtain ⟨x, hx, rfl⟩ := List.mem_map.1 hp
      exact .inr (itemsR_mem13 l 0 x hx)
  refine ⟨rfl, fun p hp => hO p (hmem p hp), fun p hp => ?_, ?_⟩
  · unfold validN validR at hv
    rw [Bool.and_eq_true] at hv
    rcases hmem p hp with h | ⟨r, hr, h⟩
    · exact List.all_eq_true.1 hv.1 p h
    · have h1 := List.all_eq_true.1 hv.2 r hr
      rw [Bool.and_eq_true] at h1
      exact List.all_eq_true.1 h1.2 p h
  · unfold largeN at hL
    rw [Bool.or_eq_false_iff, decide_eq_false_iff_not, decide_eq_false_iff_not] at hL
    unfold pksN itemsN
    rw [List.length_map, List.length_append, List.length_map, itemsR_len]
    omega
/-- What of answers. -/
def OfAns (w : World) (l : List Rp) (I : List Pk) (e : Ending) (w' : World) : Prop := Kept (fun _ => False) w w' ∧ (((largeN l I = true ∨ validN mayB I l = false) ∧ e = .returned (.tuple #[.pointer none, .pointer none, .bool false])) ∨ ∃ xb pb, e = .returned (.tuple #[.pointer (some ⟨xb, 0, none⟩), .pointer (some ⟨pb, 0, none⟩), .bool true]) ∧ validN mayB I l = true ∧ Ok13 I l (pksN I l) ∧ PoolS w.heap.size w' pb (I.length : Int) (itemsN I l) ∧ ∃ lo, IS lo w' xb (pksN I l))
theorem OfAns.no {w w' : World} {l : List Rp} {I : List Pk} {e : Ending} (hk : Kept (fun _ => False) w w') (hn : largeN l I = true ∨ validN mayB I l = false) (he : e = .returned (.tuple #[.pointer none, .pointer none, .bool false])) : OfAns w l I e w' := ⟨hk, .inl ⟨hn, he⟩⟩
theorem OfAns.yes {w w' : World} {l : List Rp} {I : List Pk} {e : Ending} (hk : Kept (fun _ => False) w w') (xb pb : Nat) (he : e = .returned (.tuple #[.pointer (some ⟨xb, 0, none⟩), .pointer (some ⟨pb, 0, none⟩), .bool true])) (hv : validN mayB I l = true) (ho : Ok13 I l (pksN I l)) (hp : PoolS w.heap.size w' pb (I.length : Int) (itemsN I l)) {lo : Nat} (hi : IS lo w' xb (pksN I l)) : OfAns w l I e w' := ⟨hk, .inr ⟨xb, pb, he, hv, ho, hp, lo, hi⟩⟩
/-- What a pool's Package and Count tell, of a pool of what may be. -/
theorem pool_tells13 {lo : Nat} {w : World} {pb : Nat} {inst : Int} {I : List Pk} {l : List Rp} (hP : PoolS lo w pb inst (itemsN I l)) (ho : Ok13 I l (pksN I l)) :
    (∀ W, Kept (fun _ => False) w W → Calls Tryz.prog 13 #[.pointer (some ⟨pb, 0, none⟩)] W (fun e w' => e = .returned (.int .i64 ((pksN I l).length : Int)) ∧ Kept (fun _ => False) W w')) ∧
    (∀ W, Kept (fun _ => False) w W → ∀ (i : Nat) (p : Pk), (pksN I l)[i]? = some p → Calls Tryz.prog 23 #[.pointer (some ⟨pb, 0, none⟩), .int .i64 (i : Int)] W fun e w' => (∃ s', e = .returned (.tuple #[.agg (pkA p s'), .int .i64 0]) ∧ PkN W.heap.size w' p s') ∧ Kept (fun _ => False) W w') := by
  obtain ⟨B, v, mb, D, rs, h1, h2⟩ := hP
  have hrs : rs.map (fun r : PRow => r.p) = pksN I l := by
    unfold pksN
    rw [← h1, List.map_map]
    rfl
  have hln : rs.length = (pksN I l).length := by rw [← hrs, List.length_map]
  refine ⟨fun W hk => ?_, fun W hk i p hp => ?_⟩
  · rw [← hln]
    exact count12_walk (h2.quiet hk)
  · refine (packageG12_walk (h2.quiet hk) (i : Int) (fun r hr => ?_)).mono ?_
    · have hm : r.p ∈ pksN I l := by rw [← hrs]; exact List.mem_map.2 ⟨r, hr, rfl⟩
      exact ⟨may_gen (ho.may _ hm), ho.fits _ hm⟩
    · rintro e w' ⟨hkw, h⟩
      have hi := (List.getElem?_eq_some_iff.1 hp).1
      rcases h with ⟨h, _⟩ | ⟨j, r, s', hj, hr, he, hn, _⟩
      · exact absurd h (by omega)
      · obtain rfl : i = j := by omega
        have hrp : r.p = p := by
          have h3 := congrArg (fun x : List Pk => x[i]?) hrs
          rw [List.getElem?_map, hr, hp] at h3
          simpa using h3
        rw [hrp] at he hn
        exact ⟨⟨s', he, hn⟩, hkw⟩
set_option maxRecDepth 100000 in
set_option maxHeartbeats 4000000 in
theorem of13_walk (l : List Rp) (I : List Pk) (rv iv : Value) (w : World) (hR : RpsS w rv l) (hI : PksS w iv I) (hF : LrgF l I)
    (hO : ∀ p, (p ∈ I ∨ ∃ r ∈ l, p ∈ r.2) → PkFits p) (hW : PkW w) : Calls Tryz.prog 38 #[rv, iv] w (OfAns w l I) := by
  have HN := Lib.hid (newF12_walk l I rv iv w hR hI hF hO hW)
  have HO := Lib.hid hO
  clear hR hI hF hO hW
  go_enter Tryz.func38, Tryz.ntmps38
  go_wp2_with fail
  refine HN.out.mono ?_
  rintro e w1 ⟨hk1, ⟨hn, rfl⟩ | ⟨hL, hv, pb, rfl, hP⟩ | ⟨_, hn, rfl⟩⟩
  · have HK1 := Lib.hid hk1
    have HNO := Lib.hid (Or.inl (b := validN mayB I l = false) hn)
    clear hk1 hn
    go_wp2_with fail
    go_ret3
    exact OfAns.no HK1.out HNO.out rfl
  · have ho := ok13_of hL hv HO.out
    obtain ⟨t1, t2⟩ := pool_tells13 hP ho
    have hm := mnew13_walk (pksN I l) pb w1 (by have := ho.few; omega) (by have := ho.e1; omega) (by have := ho.e2; omega)
      (fun p hp x hx => by
        have hf := ho.fits p hp
        unfold namesP at hx
        unfold maxLen
        rcases List.mem_cons.1 hx with rfl | hx
        · have := hf.nm; omega
        · rcases List.mem_append.1 hx with hx | hx
          · obtain ⟨d, hd, rfl⟩ := List.mem_map.1 hx
            have := (hf.pv d hd).1; omega
          · have := hf.fi x hx; omega)
      (fun p hp e he => by have := ((ho.fits p hp).ob e he).1; unfold maxLen; omega) t1 t2
    have HM := Lib.hid hm
    have HP := Lib.hid hP
    have HV := Lib.hid hv
    have HOK := Lib.hid ho
    have HK1 := Lib.hid hk1
    clear hm hP hv ho t1 t2 hk1 hL
    go_wp2_with fail
    refine HM.out.mono ?_
    rintro e w2 ⟨⟨xb, rfl, hIS⟩, hk2⟩
    have HK2 := Lib.hid hk2
    have HI2 := Lib.hid hIS
    clear hk2 hIS
    go_wp2_with fail
    go_ret3
    exact OfAns.yes (HK1.out.trans HK2.out (fun _ _ h => h)) xb pb rfl HV.out HOK.out (HP.out.kept HK2.out (fun _ _ h => h)) HI2.out
  · have HK1 := Lib.hid hk1
    have HNO := Lib.hid (Or.inr (a := largeN l I = true) hn)
    clear hk1 hn
    go_wp2_with fail
    go_ret3
    exact OfAns.no HK1.out HNO.out rfl
end Go.Proofs.YtpdoeapjdifmbaaGreatDoor
