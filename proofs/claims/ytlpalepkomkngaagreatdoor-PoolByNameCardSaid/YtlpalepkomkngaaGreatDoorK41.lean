/-
  The walk over the law PoolByName (layer 12). Conditions: as each theorem states.
-/
import Derived.Test.YtlpalepkomkngaaGreatDoorK40
namespace Go.Proofs.YtlpalepkomkngaaGreatDoor
open Go.RowKit Ver Evr Span Dep Rich
attribute [local go_sem ↓] execOp_loadPq

theorem valid_may12 {l : List Rp} {I : List Pk} (h : validN mayB I l = true) : ∀ p, (p ∈ I ∨ ∃ r ∈ l, p ∈ r.2) → mayB p = true := fun p hp => by
  unfold validN validR at h
  rw [Bool.and_eq_true] at h
  rcases hp with hp | ⟨r, hr, hp⟩
  · exact List.all_eq_true.1 h.1 p hp
  · have := List.all_eq_true.1 h.2 r hr
    rw [Bool.and_eq_true] at this
    exact List.all_eq_true.1 this.2 p hp
set_option maxRecDepth 100000 in
set_option maxHeartbeats 16000000 in
theorem poolbyname_walk (l : List Rp) (I : List Pk) (rv iv : Value) (w : World) (hR : RpsS w rv l) (hI : PksS w iv I) (hFI : ∀ p ∈ I, PkFits p) (hFR : ∀ r ∈ l, RpFits r) (hll : l.length < 140737488355328) (hil : I.length < 140737488355328) (hW : PkW w) :
    Calls Tryz.prog 6 #[rv, iv] w fun e w' => e = .returned (.bool true) ∧ Kept (fun _ => False) w w' := by
  have HR := Lib.hid hR
  have HI := Lib.hid hI
  have HFI := Lib.hid hFI
  have HFR := Lib.hid hFR
  have HW := Lib.hid hW
  have HWI := Lib.hid (wide12_walk l I rv iv w hR hI hFI hFR hll hil)
  have HAW := Lib.hid (fun (W : World) (h : Kept (fun _ => False) w W) => awake12_walk W (hW.kept h))
  obtain ⟨ao, cp, rfl, _⟩ := hR
  obtain ⟨ai, ci, rfl, _⟩ := hI
  clear hFI hFR hW
  go_enter Tryz.func6, Tryz.ntmps6
  go_wp2_with fail
  refine HWI.out.mono ?_
  rintro e w1 ⟨⟨b, rfl, hb⟩, hk1⟩
  have HB := Lib.hid hb
  have HK1 := Lib.hid hk1
  clear hb hk1
  cases b with
  | true =>
    go_wp2_with fail
    refine (HAW.out _ HK1.out).mono ?_
    rintro e w2 ⟨rfl, hk2⟩
    go_wp2_with fail
    go_ret
    exact ⟨rfl, HK1.out.trans hk2 (fun _ _ h => h)⟩
  | false =>
    have HO := Lib.hid (HB.out (by first | exact rfl | exact trivial))
    go_wp2_with fail
    refine (HAW.out _ HK1.out).mono ?_
    rintro e w2 ⟨rfl, hk2⟩
    have HK2 := Lib.hid (HK1.out.trans hk2 (fun _ _ h => h))
    clear hk2
    go_wp2_with fail
    refine (new12_walk l I _ _ w2 (HR.out.kept HK2.out) (HI.out.kept HK2.out) (by have := HO.out.rl; omega) (by have := HO.out.sm; omega) (ok_of HO.out HFI.out HFR.out) (HW.out.kept HK2.out)).mono ?_
    rintro e w3 ⟨hk3, hans⟩
    have HK3 := Lib.hid (HK2.out.trans hk3 (fun _ _ h => h))
    clear hk3
    rcases hans with ⟨_, rfl⟩ | ⟨_, hvd, pb, rfl, hpool⟩ | ⟨_, _, rfl⟩
    · go_wp2_with fail
      go_ret
      exact ⟨rfl, HK3.out⟩
    case inr.inr =>
      go_wp2_with fail
      go_ret
      exact ⟨rfl, HK3.out⟩
    obtain ⟨B, v, mb, D, rs, hrs, hG⟩ := hpool
    have hok : ∀ r ∈ rs, PkMid r.p ∧ PkFits r.p ∧ mayB r.p = true := fun r hr => by
      have hm : (r.p, r.rp, r.pr) ∈ itemsN I l := by rw [← hrs]; exact List.mem_map.2 ⟨r, hr, rfl⟩
      have h1 := ok_of HO.out HFI.out HFR.out r.p (items_mem hm)
      exact ⟨h1.1, h1.2, valid_may12 hvd r.p (items_mem hm)⟩
    have hok2 : ∀ r ∈ rs, PkMid r.p ∧ PkFits r.p := fun r hr => ⟨(hok r hr).1, (hok r hr).2.1⟩
    have hlen := (rows_len hrs).trans items_len
    have hn80 : rs.length ≤ 80 := by have := HO.out.sm; omega
    have hLn : (nmsR rs).length = rs.length := by unfold nmsR; rw [List.length_map]
    have hnm1 : ∀ nm ∈ nmsR rs, nm.size ≤ 1000 := fun nm h => by
      obtain ⟨r, hr, rfl⟩ := List.mem_map.1 h
      exact (hok r hr).1.nm
    have HSM := Lib.hid hnm1
    have HPA := Lib.hid (fun (W : World) (hk : Kept (fun _ => False) w3 W) (i : Nat) (r : PRow) (hi : rs[i]? = some r) => pk12_at (hG.quiet hk) hok2 hi)
    have HCT := Lib.hid (fun (W : World) (hk : Kept (fun _ => False) w3 W) => count12_walk (hG.quiet hk))
    have HND := Lib.hid (fun (W : World) (hk : Kept (fun _ => False) w3 W) (nm : ByteArray) (h : nm.size ≤ maxLen) => named12p_walk (hG.quiet hk) (by omega) nm h)
    have HOB := Lib.hid (fun (W : World) (hk : Kept (fun _ => False) w3 W) (n m : Int) => obs12_walk (hG.quiet hk) n m hok)
    have HNA := Lib.hid (names12_walk hG (by omega) (fun nm h => by have := hnm1 nm h; omega) sort_ok12)
    have HOK := Lib.hid hok
    obtain ⟨N, hN⟩ : ∃ N, N = rs.length := ⟨_, rfl⟩
    obtain ⟨L, hL⟩ : ∃ L, L = nmsR rs := ⟨_, rfl⟩
    rw [← hL] at HSM HNA HND hLn
    have hLr := hL
    rw [← hN] at hLn hn80 HCT
    have HLR := Lib.hid (And.intro hN hLr)
    clear hG hrs hok hok2 hlen hnm1 hL hLr hN hvd
    go_wp2_with fail
    refine HNA.out.mono ?_
    rintro e w4 ⟨⟨u, acc, rfl, hrow, hnd, hmem⟩, hk4⟩
    have hrise := sortB_rise hnd
    have hin : ∀ nm, nm ∈ sortB acc ↔ nm ∈ L := fun nm => sortB_mem.trans (hmem nm)
    obtain ⟨an, cn, rfl, hst⟩ := own_strs2 hrow
    generalize sortB acc = S at hrise hin hst ⊢
    have HS := Lib.hid (And.intro hrise hin)
    have HST := Lib.hid hst
    have HK4 := Lib.hid hk4
    have hsl : S.length ≤ N := by
      rw [← hLn]
      exact List.Nodup.length_le_of_subset (hrise.imp (fun {a b} h e => by subst e; exact List.lt_irrefl _ h)) (fun x hx => (hin x).1 hx)
    have hc1 : ¬ (N : Int) < 0 := by omega
    have hc2 : ¬ (1048576 : Int) < (N : Int) := by omega
    clear hrow hnd hmem hk4 hst hrise hin
    go_wp2_with fail
    refine (HCT.out _ HK4.out).mono ?_
    rintro e w5 ⟨rfl, hk5⟩
    have HK5 := Lib.hid (HK4.out.trans hk5 (fun _ _ h => h))
    have HT5 := Lib.hid hk5
    clear hk5
    go_wp2_with fail
    refine (HCT.out _ HK5.out).mono ?_
    rintro e w6 ⟨rfl, hk6⟩
    have HK6 := Lib.hid (HK5.out.trans hk6 (fun _ _ h => h))
    have HT6 := Lib.hid (HT5.out.trans hk6 (fun _ _ h => h))
    clear hk6
    go_wp2_with fail
    refine (HCT.out _ HK6.out).mono ?_
    rintro e w7 ⟨rfl, hk7⟩
    have HK7 := Lib.hid (HK6.out.trans hk7 (fun _ _ h => h))
    have HT7 := Lib.hid (HT6.out.trans hk7 (fun _ _ h => h))
    clear hk7
    obtain ⟨zs, hmk, hzs, hz0⟩ := make_met12 w7 N (by omega)
    have hb8 := Box.made w7 3 zs
    have HT8 := Lib.hid (HT7.out.alloc (.cells zs 3))
    have HM8 := Lib.hid (Met.start (L := L) hb8 (by rw [hzs, hLn]) (by rw [hLn]; exact hz0))
    clear hzs hz0 hb8
    go_wp2_with fail
    obtain ⟨gm, hgm⟩ : ∃ g, g = w7.heap.size := ⟨_, rfl⟩
    rw [← hgm] at HM8 ⊢
    have HG := Lib.hid (show w4.heap.size ≤ gm from by rw [hgm]; exact HT7.out.size)
    clear hgm hmk
    generalize w7.alloc (.cells zs 3) = w8 at HT8 HM8 ⊢
    go_loopw [9] (fun v9 wr => ∃ i : Nat, v9 = .int .i64 (i : Int) ∧ i ≤ S.length ∧ Hid (Kept (fun _ => False) w4 wr ∧ Met wr gm L (S.take i) [])) (fun v9 _ => S.length - (intOf v9).toNat)
    case atStart => exact ⟨0, rfl, Nat.zero_le _, Lib.hid ⟨HT8.out, by rw [List.take_zero]; exact HM8.out⟩⟩
    case round =>
      obtain ⟨i, rfl, hi, HR9⟩ := hrel
      rename World => wr
      by_cases hlt : i < S.length
      · have hi0 : (0 : Int) ≤ (i : Int) := by omega
        have hiI : (i : Int) < (S.length : Int) := by omega
        obtain ⟨nm, hnm⟩ : ∃ nm, S[i]? = some nm := ⟨_, List.getElem?_eq_getElem hlt⟩
        obtain ⟨bn, rfl, _, hbn, ci⟩ := HST.out i nm hnm
        have HNM := Lib.hid hnm
        have HCI := Lib.hid (And.intro hbn ci)
        clear hnm hbn ci
        go_wp2_with fail
        obtain ⟨T, Fw, t0, ht0, hFk, hFs⟩ := class_of wr
        by_cases hp0 : (0 : Int) < (i : Int)
        · obtain ⟨j, hj⟩ : ∃ j, i = j + 1 := ⟨i - 1, by omega⟩
          obtain ⟨pn, hpn⟩ : ∃ nm, S[j]? = some nm := ⟨_, List.getElem?_eq_getElem (by omega)⟩
          obtain ⟨bn2, e2, _, _, cj⟩ := HST.out j pn hpn
          injection e2 with e2
          injection e2 with e2 _ _
          subst e2
          have lc0 := fun t => ((HR9.out.1.trans (hFk t) (fun _ _ h => h)).cell (p := ⟨bn, j, none⟩) HCI.out.1 (fun h => h)).trans cj
          have lc1 := fun t => ((HR9.out.1.trans (hFk t) (fun _ _ h => h)).cell (p := ⟨bn, i, none⟩) HCI.out.1 (fun h => h)).trans HCI.out.2
          have gw : IntKind.i64.wrap ((i : Int) - 1) = (j : Int) := by
            rw [show (i : Int) - 1 = (j : Int) by omega]
            exact IntWalk.i64_in _ ⟨by omega, by omega⟩
          have hj0 : (0 : Int) ≤ (j : Int) := by omega
          have hjS : (j : Int) < (S.length : Int) := by omega
          have hab : pn.data.toList < nm.data.toList := by
            obtain ⟨h3, h4⟩ := List.getElem?_eq_some_iff.1 hpn
            obtain ⟨h5, h6⟩ := List.getElem?_eq_some_iff.1 HNM.out
            have := (List.pairwise_iff_getElem.1 HS.out.1) j i h3 h5 (by omega)
            rw [h4, h6] at this
            exact this
          have hno := str_less hab
          have hp1 : 0 < i := by omega
          clear cj hpn hj
          have HFK := Lib.hid hFk
          have HFS := Lib.hid hFs
          have hnt : Nonempty T := ⟨t0⟩
          clear hFk hFs
          refine wp_region_class Fw t0 ht0 (by kernel_rfl) (by kernel_rfl) ?_
          repeat (go_big_quiet_step (fail))
          clear lc0 lc1 gw
          refine wpQuiet_nil ?_
          rintro _ ⟨tz, rfl⟩
          have hkz := HFK.out tz
          generalize Fw tz = ws at hkz ⊢
          have HKS := Lib.hid (HR9.out.1.trans hkz (fun _ _ h => h))
          have HMS := Lib.hid (HR9.out.2.kept hkz)
          clear hkz HFK HFS HR9
          have c0 := (HKS.out.cell (p := ⟨bn, i, none⟩) HCI.out.1 (fun h => h)).trans HCI.out.2
          go_wp2_with fail
          have hmS : nm ∈ S := List.mem_of_getElem? HNM.out
          have hmL := (HS.out.2 nm).1 hmS
          have hsz := HSM.out nm hmL
          have hps : ¬ ((pos nm L).length : Int) = 0 := by have := pos_some hmL; omega
          have hpN := Nat.le_trans (pos_le nm L) (Nat.le_of_eq hLn)
          refine (HND.out ws (HK4.out.trans HKS.out (fun _ _ h => h)) nm (by unfold maxLen; omega)).mono ?_
          rintro e w9 ⟨⟨u, rfl, hu⟩, hk9⟩
          obtain ⟨al, cl, rfl, hl⟩ := own_pos hu
          have HL := Lib.hid hl
          have HK9 := Lib.hid hk9
          have HM9 := Lib.hid (HMS.out.kept hk9)
          have HGS := Lib.hid HMS.out.lt
          clear hu hl hk9 hmS hmL hsz
          go_wp2_with fail
          go_loopw [11] (fun v11 wk => ∃ k : Nat, v11 = .int .i64 (k : Int) ∧ k ≤ (pos nm L).length ∧ Hid (Kept (fun b => b = gm) w9 wk ∧ Met wk gm L (S.take i) ((pos nm L).take k))) (fun v11 _ => (pos nm L).length - (intOf v11).toNat)
          case atStart => exact ⟨0, rfl, Nat.zero_le _, Lib.hid ⟨Kept.refl _ _, by rw [List.take_zero]; exact HM9.out⟩⟩
          case round =>
            obtain ⟨k, rfl, hk, HRK⟩ := hrel
            rename World => wk
            have HKK := Lib.hid (show Kept (fun _ => False) w4 wk from (HKS.out.trans HK9.out (fun _ _ h => h)).trans HRK.out.1 (fun b hb h => by have h' : b = gm := h; have := HG.out; omega))
            by_cases hkt : k < (pos nm L).length
            · have hk0 : (0 : Int) ≤ (k : Int) := by omega
              have hkI : (k : Int) < ((pos nm L).length : Int) := by omega
              obtain ⟨a, ha⟩ : ∃ a, (pos nm L)[k]? = some a := ⟨_, List.getElem?_eq_getElem hkt⟩
              obtain ⟨bl, rfl, hbl1, hbl2, cl0⟩ := HL.out k a ha
              have haL := pos_mem.1 (List.mem_of_getElem? ha)
              have haN : a < N := by have := (List.getElem?_eq_some_iff.1 haL).1; omega
              have hbg : ¬ bl = gm := by have := HGS.out; omega
              obtain ⟨r, hr, hrn⟩ := row_named (HLR.out.2 ▸ haL)
              obtain ⟨p, s0, rp0, pr0⟩ := r
              have HRN := Lib.hid (show p.nm = nm from hrn)
              clear hrn
              have HPK := Lib.hid (HPA.out wk (HK4.out.trans HKK.out (fun _ _ h => h)) a _ hr)
              have HA := Lib.hid (And.intro ha (And.intro hbl2 cl0))
              have ck := (HRK.out.1.cell (p := ⟨bl, k, none⟩) hbl2 hbg).trans cl0
              have hbl3 := Nat.lt_of_lt_of_le hbl2 HRK.out.1.size
              have HBL := Lib.hid (And.intro hbl3 ck)
              clear ha hbl1 hbl2 cl0 haL hr hbl3
              go_wp2_with fail
              refine HPK.out.mono ?_
              rintro e wp ⟨⟨s', rfl, hN⟩, hkp⟩
              obtain ⟨q4, q5, q6, q7, q8, q9, q10, q11, q12⟩ := s'
              obtain ⟨f4, h4, e4, _⟩ := hN.here.pv
              obtain ⟨f5, h5, e5, _⟩ := hN.here.rq
              obtain ⟨f6, h6, e6, _⟩ := hN.here.cf
              obtain ⟨f7, h7, e7, _⟩ := hN.here.ob
              obtain ⟨f8, h8, e8, _⟩ := hN.here.rc
              obtain ⟨f9, h9, e9, _⟩ := hN.here.sp
              obtain ⟨f10, h10, e10, _⟩ := hN.here.sg
              obtain ⟨f11, h11, e11, _⟩ := hN.here.en
              obtain ⟨f12, h12, e12, _⟩ := hN.here.fi
              dsimp only at e4 e5 e6 e7 e8 e9 e10 e11 e12
              subst e4; subst e5; subst e6; subst e7; subst e8; subst e9; subst e10; subst e11; subst e12
              have hbx := Box.made wp 28 #[.string p.nm, .int .i64 p.n, .string p.v, .string p.r, .int .u8 (p.a : Int), .string p.vd, .slice f4 p.pv.length h4, .slice f5 p.rq.length h5, .slice f6 p.cf.length h6, .slice f7 p.ob.length h7, .slice f8 p.rc.length h8, .slice f9 p.sp.length h9, .slice f10 p.sg.length h10, .slice f11 p.en.length h11, .slice f12 p.fi.length h12]
              have hk5 := hkp.alloc (.cells #[.string p.nm, .int .i64 p.n, .string p.v, .string p.r, .int .u8 (p.a : Int), .string p.vd, .slice f4 p.pv.length h4, .slice f5 p.rq.length h5, .slice f6 p.cf.length h6, .slice f7 p.ob.length h7, .slice f8 p.rc.length h8, .slice f9 p.sp.length h9, .slice f10 p.sg.length h10, .slice f11 p.en.length h11, .slice f12 p.fi.length h12] 28)
              have HBX := Lib.hid hbx
              have HK5 := Lib.hid hk5
              clear hN hbx hkp hk5 ck
              go_wp2_with fail
              have hA0 : ¬ (a : Int) < 0 := by omega
              have hAN : ¬ N ≤ a := by omega
              generalize wp.alloc (.cells #[.string p.nm, .int .i64 p.n, .string p.v, .string p.r, .int .u8 (p.a : Int), .string p.vd, .slice f4 p.pv.length h4, .slice f5 p.rq.length h5, .slice f6 p.cf.length h6, .slice f7 p.ob.length h7, .slice f8 p.rc.length h8, .slice f9 p.sp.length h9, .slice f10 p.sg.length h10, .slice f11 p.en.length h11, .slice f12 p.fi.length h12] 28) = w5 at HBX HK5 ⊢
              obtain ⟨gx, hgx⟩ : ∃ g, g = wp.heap.size := ⟨_, rfl⟩
              rw [← hgx] at HBX ⊢
              clear hgx
              obtain ⟨T, Fw, t0, ht0, hFk, hFs⟩ := class_of w5
              have hrn := HRN.out
              by_cases hkp : (0 : Int) < (k : Int)
              · obtain ⟨j2, hj2⟩ : ∃ j, k = j + 1 := ⟨k - 1, by omega⟩
                obtain ⟨a2, ha2⟩ : ∃ a, (pos nm L)[j2]? = some a := ⟨_, List.getElem?_eq_getElem (by omega)⟩
                obtain ⟨b3, e3, _, hb3, cl2⟩ := HL.out j2 a2 ha2
                injection e3 with e3
                injection e3 with e3 _ _
                subst e3
                have c2 := (HRK.out.1.cell (p := ⟨bl, j2, none⟩) hb3 hbg).trans cl2
                have haa : ¬ a ≤ a2 := by
                  have hk' := HA.out.1
                  rw [hj2] at hk'
                  have := pos_less ha2 hk'
                  omega
                have gk : IntKind.i64.wrap ((k : Int) - 1) = (j2 : Int) := by
                  rw [show (k : Int) - 1 = (j2 : Int) by omega]
                  exact IntWalk.i64_in _ ⟨by omega, by omega⟩
                have hj20 : (0 : Int) ≤ (j2 : Int) := by omega
                have hj2I : (j2 : Int) < ((pos nm L).length : Int) := by omega
                have hkn : 0 < k := by omega
                clear hj2 ha2 hb3 cl2
                have ly := fun t => ((HK5.out.trans (hFk t) (fun _ _ h => h)).cell (p := ⟨bl, j2, none⟩) HBL.out.1 (fun h => h)).trans c2
                clear c2
                have lx := fun t => ((hFk t).box HBX.out (fun h => h)).cell 0
                have lk := fun t => ((HK5.out.trans (hFk t) (fun _ _ h => h)).cell (p := ⟨bl, k, none⟩) HBL.out.1 (fun h => h)).trans HBL.out.2
                have lS := fun t => ((HKK.out.trans (HK5.out.trans (hFk t) (fun _ _ h => h)) (fun _ _ h => h)).cell (p := ⟨bn, i, none⟩) HCI.out.1 (fun h => h)).trans HCI.out.2
                have HFK := Lib.hid hFk
                have HFS := Lib.hid hFs
                have hnt : Nonempty T := ⟨t0⟩
                clear hFk hFs
                refine wp_region_class Fw t0 ht0 (by kernel_rfl) (by kernel_rfl) ?_
                repeat (go_big_quiet_step (fail))
                refine wpQuiet_nil ?_
                rintro _ ⟨tz, rfl⟩
                have hkz := HFK.out tz
                generalize Fw tz = wq at hkz ⊢
                have HKQ := Lib.hid (HK5.out.trans hkz (fun _ _ h => h))
                clear hkz lx lk lS ly gk HFK HFS hrn
                have hmq := HRK.out.2.kept HKQ.out
                have aL : a < L.length := by rw [hLn]; exact haN
                have m0 := hmq.cell aL
                have m1 := hmq.free a
                have k0 := (HKQ.out.cell (p := ⟨bl, k, none⟩) HBL.out.1 (fun h => h)).trans HBL.out.2
                have hpt := pos_take HA.out.1
                have hms := hmq.step hpt.1
                have hks := (HRK.out.1.trans HKQ.out (fun _ _ h => absurd h (fun h => h))).setCell (p := ⟨gm, a, none⟩) (.inl rfl) (.int .i64 (metN L (S.take i) ((pos nm L).take k) a + 1))
                have hsm := metN_small L (S.take i) ((pos nm L).take k) a
                generalize metN L (S.take i) ((pos nm L).take k) a = z at m0 hms hks hsm
                have gz : IntKind.i64.wrap (z + 1) = z + 1 := IntWalk.i64_in _ ⟨by omega, by omega⟩
                rw [← hpt.2] at hms
                have HMN := Lib.hid (And.intro hks hms)
                have ha0 : (0 : Int) ≤ (a : Int) := by omega
                have haI : (a : Int) < (N : Int) := by omega
                clear hmq hpt hms hks hsm
                go_wp2_with fail
                go_roundw
                case rel => exact ⟨k + 1, by go_num, by omega, HMN⟩
                case measure => simp [intOf]; omega
              · have hkn : ¬ 0 < k := by omega
                have lx := fun t => ((hFk t).box HBX.out (fun h => h)).cell 0
                have lk := fun t => ((HK5.out.trans (hFk t) (fun _ _ h => h)).cell (p := ⟨bl, k, none⟩) HBL.out.1 (fun h => h)).trans HBL.out.2
                have lS := fun t => ((HKK.out.trans (HK5.out.trans (hFk t) (fun _ _ h => h)) (fun _ _ h => h)).cell (p := ⟨bn, i, none⟩) HCI.out.1 (fun h => h)).trans HCI.out.2
                have HFK := Lib.hid hFk
                have HFS := Lib.hid hFs
                have hnt : Nonempty T := ⟨t0⟩
                clear hFk hFs
                refine wp_region_class Fw t0 ht0 (by kernel_rfl) (by kernel_rfl) ?_
                repeat (go_big_quiet_step (fail))
                refine wpQuiet_nil ?_
                rintro _ ⟨tz, rfl⟩
                have hkz := HFK.out tz
                generalize Fw tz = wq at hkz ⊢
                have HKQ := Lib.hid (HK5.out.trans hkz (fun _ _ h => h))
                clear hkz lx lk lS hkn HFK HFS hrn
                have hmq := HRK.out.2.kept HKQ.out
                have aL : a < L.length := by rw [hLn]; exact haN
                have m0 := hmq.cell aL
                have m1 := hmq.free a
                have k0 := (HKQ.out.cell (p := ⟨bl, k, none⟩) HBL.out.1 (fun h => h)).trans HBL.out.2
                have hpt := pos_take HA.out.1
                have hms := hmq.step hpt.1
                have hks := (HRK.out.1.trans HKQ.out (fun _ _ h => absurd h (fun h => h))).setCell (p := ⟨gm, a, none⟩) (.inl rfl) (.int .i64 (metN L (S.take i) ((pos nm L).take k) a + 1))
                have hsm := metN_small L (S.take i) ((pos nm L).take k) a
                generalize metN L (S.take i) ((pos nm L).take k) a = z at m0 hms hks hsm
                have gz : IntKind.i64.wrap (z + 1) = z + 1 := IntWalk.i64_in _ ⟨by omega, by omega⟩
                rw [← hpt.2] at hms
                have HMN := Lib.hid (And.intro hks hms)
                have ha0 : (0 : Int) ≤ (a : Int) := by omega
                have haI : (a : Int) < (N : Int) := by omega
                clear hmq hpt hms hks hsm
                go_wp2_with fail
                go_roundw
                case rel => exact ⟨k + 1, by go_num, by omega, HMN⟩
                case measure => simp [intOf]; omega
            · obtain rfl : k = (pos nm L).length := by omega
              have hge : ¬ ((pos nm L).length : Int) < ((pos nm L).length : Int) := by omega
              have hfr := take_fresh HS.out.1 HNM.out
              have hnx := HRK.out.2
              rw [List.take_length] at hnx
              have hnx2 := hnx.next hfr.1
              rw [← hfr.2] at hnx2
              have HNX := Lib.hid (And.intro HKK.out hnx2)
              clear hkt hk hfr hnx hnx2
              go_wp2_with fail
              go_roundw
              case rel => exact ⟨i + 1, by go_num, by omega, HNX⟩
              case measure => simp [intOf]; omega
        · have hp1 : ¬ 0 < i := by omega
          have HFK := Lib.hid hFk
          have HFS := Lib.hid hFs
          have hnt : Nonempty T := ⟨t0⟩
          clear hFk hFs
          refine wp_region_class Fw t0 ht0 (by kernel_rfl) (by kernel_rfl) ?_
          repeat (go_big_quiet_step (fail))
          refine wpQuiet_nil ?_
          rintro _ ⟨tz, rfl⟩
          have hkz := HFK.out tz
          generalize Fw tz = ws at hkz ⊢
          have HKS := Lib.hid (HR9.out.1.trans hkz (fun _ _ h => h))
          have HMS := Lib.hid (HR9.out.2.kept hkz)
          clear hkz HFK HFS HR9
          have c0 := (HKS.out.cell (p := ⟨bn, i, none⟩) HCI.out.1 (fun h => h)).trans HCI.out.2
          go_wp2_with fail
          have hmS : nm ∈ S := List.mem_of_getElem? HNM.out
          have hmL := (HS.out.2 nm).1 hmS
          have hsz := HSM.out nm hmL
          have hps : ¬ ((pos nm L).length : Int) = 0 := by have := pos_some hmL; omega
          have hpN := Nat.le_trans (pos_le nm L) (Nat.le_of_eq hLn)
          refine (HND.out ws (HK4.out.trans HKS.out (fun _ _ h => h)) nm (by unfold maxLen; omega)).mono ?_
          rintro e w9 ⟨⟨u, rfl, hu⟩, hk9⟩
          obtain ⟨al, cl, rfl, hl⟩ := own_pos hu
          have HL := Lib.hid hl
          have HK9 := Lib.hid hk9
          have HM9 := Lib.hid (HMS.out.kept hk9)
          have HGS := Lib.hid HMS.out.lt
          clear hu hl hk9 hmS hmL hsz
          go_wp2_with fail
          go_loopw [11] (fun v11 wk => ∃ k : Nat, v11 = .int .i64 (k : Int) ∧ k ≤ (pos nm L).length ∧ Hid (Kept (fun b => b = gm) w9 wk ∧ Met wk gm L (S.take i) ((pos nm L).take k))) (fun v11 _ => (pos nm L).length - (intOf v11).toNat)
          case atStart => exact ⟨0, rfl, Nat.zero_le _, Lib.hid ⟨Kept.refl _ _, by rw [List.take_zero]; exact HM9.out⟩⟩
          case round =>
            obtain ⟨k, rfl, hk, HRK⟩ := hrel
            rename World => wk
            have HKK := Lib.hid (show Kept (fun _ => False) w4 wk from (HKS.out.trans HK9.out (fun _ _ h => h)).trans HRK.out.1 (fun b hb h => by have h' : b = gm := h; have := HG.out; omega))
            by_cases hkt : k < (pos nm L).length
            · have hk0 : (0 : Int) ≤ (k : Int) := by omega
              have hkI : (k : Int) < ((pos nm L).length : Int) := by omega
              obtain ⟨a, ha⟩ : ∃ a, (pos nm L)[k]? = some a := ⟨_, List.getElem?_eq_getElem hkt⟩
              obtain ⟨bl, rfl, hbl1, hbl2, cl0⟩ := HL.out k a ha
              have haL := pos_mem.1 (List.mem_of_getElem? ha)
              have haN : a < N := by have := (List.getElem?_eq_some_iff.1 haL).1; omega
              have hbg : ¬ bl = gm := by have := HGS.out; omega
              obtain ⟨r, hr, hrn⟩ := row_named (HLR.out.2 ▸ haL)
              obtain ⟨p, s0, rp0, pr0⟩ := r
              have HRN := Lib.hid (show p.nm = nm from hrn)
              clear hrn
              have HPK := Lib.hid (HPA.out wk (HK4.out.trans HKK.out (fun _ _ h => h)) a _ hr)
              have HA := Lib.hid (And.intro ha (And.intro hbl2 cl0))
              have ck := (HRK.out.1.cell (p := ⟨bl, k, none⟩) hbl2 hbg).trans cl0
              have hbl3 := Nat.lt_of_lt_of_le hbl2 HRK.out.1.size
              have HBL := Lib.hid (And.intro hbl3 ck)
              clear ha hbl1 hbl2 cl0 haL hr hbl3
              go_wp2_with fail
              refine HPK.out.mono ?_
              rintro e wp ⟨⟨s', rfl, hN⟩, hkp⟩
              obtain ⟨q4, q5, q6, q7, q8, q9, q10, q11, q12⟩ := s'
              obtain ⟨f4, h4, e4, _⟩ := hN.here.pv
              obtain ⟨f5, h5, e5, _⟩ := hN.here.rq
              obtain ⟨f6, h6, e6, _⟩ := hN.here.cf
              obtain ⟨f7, h7, e7, _⟩ := hN.here.ob
              obtain ⟨f8, h8, e8, _⟩ := hN.here.rc
              obtain ⟨f9, h9, e9, _⟩ := hN.here.sp
              obtain ⟨f10, h10, e10, _⟩ := hN.here.sg
              obtain ⟨f11, h11, e11, _⟩ := hN.here.en
              obtain ⟨f12, h12, e12, _⟩ := hN.here.fi
              dsimp only at e4 e5 e6 e7 e8 e9 e10 e11 e12
              subst e4; subst e5; subst e6; subst e7; subst e8; subst e9; subst e10; subst e11; subst e12
              have hbx := Box.made wp 28 #[.string p.nm, .int .i64 p.n, .string p.v, .string p.r, .int .u8 (p.a : Int), .string p.vd, .slice f4 p.pv.length h4, .slice f5 p.rq.length h5, .slice f6 p.cf.length h6, .slice f7 p.ob.length h7, .slice f8 p.rc.length h8, .slice f9 p.sp.length h9, .slice f10 p.sg.length h10, .slice f11 p.en.length h11, .slice f12 p.fi.length h12]
              have hk5 := hkp.alloc (.cells #[.string p.nm, .int .i64 p.n, .string p.v, .string p.r, .int .u8 (p.a : Int), .string p.vd, .slice f4 p.pv.length h4, .slice f5 p.rq.length h5, .slice f6 p.cf.length h6, .slice f7 p.ob.length h7, .slice f8 p.rc.length h8, .slice f9 p.sp.length h9, .slice f10 p.sg.length h10, .slice f11 p.en.length h11, .slice f12 p.fi.length h12] 28)
              have HBX := Lib.hid hbx
              have HK5 := Lib.hid hk5
              clear hN hbx hkp hk5 ck
              go_wp2_with fail
              have hA0 : ¬ (a : Int) < 0 := by omega
              have hAN : ¬ N ≤ a := by omega
              generalize wp.alloc (.cells #[.string p.nm, .int .i64 p.n, .string p.v, .string p.r, .int .u8 (p.a : Int), .string p.vd, .slice f4 p.pv.length h4, .slice f5 p.rq.length h5, .slice f6 p.cf.length h6, .slice f7 p.ob.length h7, .slice f8 p.rc.length h8, .slice f9 p.sp.length h9, .slice f10 p.sg.length h10, .slice f11 p.en.length h11, .slice f12 p.fi.length h12] 28) = w5 at HBX HK5 ⊢
              obtain ⟨gx, hgx⟩ : ∃ g, g = wp.heap.size := ⟨_, rfl⟩
              rw [← hgx] at HBX ⊢
              clear hgx
              obtain ⟨T, Fw, t0, ht0, hFk, hFs⟩ := class_of w5
              have hrn := HRN.out
              by_cases hkp : (0 : Int) < (k : Int)
              · obtain ⟨j2, hj2⟩ : ∃ j, k = j + 1 := ⟨k - 1, by omega⟩
                obtain ⟨a2, ha2⟩ : ∃ a, (pos nm L)[j2]? = some a := ⟨_, List.getElem?_eq_getElem (by omega)⟩
                obtain ⟨b3, e3, _, hb3, cl2⟩ := HL.out j2 a2 ha2
                injection e3 with e3
                injection e3 with e3 _ _
                subst e3
                have c2 := (HRK.out.1.cell (p := ⟨bl, j2, none⟩) hb3 hbg).trans cl2
                have haa : ¬ a ≤ a2 := by
                  have hk' := HA.out.1
                  rw [hj2] at hk'
                  have := pos_less ha2 hk'
                  omega
                have gk : IntKind.i64.wrap ((k : Int) - 1) = (j2 : Int) := by
                  rw [show (k : Int) - 1 = (j2 : Int) by omega]
                  exact IntWalk.i64_in _ ⟨by omega, by omega⟩
                have hj20 : (0 : Int) ≤ (j2 : Int) := by omega
                have hj2I : (j2 : Int) < ((pos nm L).length : Int) := by omega
                have hkn : 0 < k := by omega
                clear hj2 ha2 hb3 cl2
                have ly := fun t => ((HK5.out.trans (hFk t) (fun _ _ h => h)).cell (p := ⟨bl, j2, none⟩) HBL.out.1 (fun h => h)).trans c2
                clear c2
                have lx := fun t => ((hFk t).box HBX.out (fun h => h)).cell 0
                have lk := fun t => ((HK5.out.trans (hFk t) (fun _ _ h => h)).cell (p := ⟨bl, k, none⟩) HBL.out.1 (fun h => h)).trans HBL.out.2
                have lS := fun t => ((HKK.out.trans (HK5.out.trans (hFk t) (fun _ _ h => h)) (fun _ _ h => h)).cell (p := ⟨bn, i, none⟩) HCI.out.1 (fun h => h)).trans HCI.out.2
                have HFK := Lib.hid hFk
                have HFS := Lib.hid hFs
                have hnt : Nonempty T := ⟨t0⟩
                clear hFk hFs
                refine wp_region_class Fw t0 ht0 (by kernel_rfl) (by kernel_rfl) ?_
                repeat (go_big_quiet_step (fail))
                refine wpQuiet_nil ?_
                rintro _ ⟨tz, rfl⟩
                have hkz := HFK.out tz
                generalize Fw tz = wq at hkz ⊢
                have HKQ := Lib.hid (HK5.out.trans hkz (fun _ _ h => h))
                clear hkz lx lk lS ly gk HFK HFS hrn
                have hmq := HRK.out.2.kept HKQ.out
                have aL : a < L.length := by rw [hLn]; exact haN
                have m0 := hmq.cell aL
                have m1 := hmq.free a
                have k0 := (HKQ.out.cell (p := ⟨bl, k, none⟩) HBL.out.1 (fun h => h)).trans HBL.out.2
                have hpt := pos_take HA.out.1
                have hms := hmq.step hpt.1
                have hks := (HRK.out.1.trans HKQ.out (fun _ _ h => absurd h (fun h => h))).setCell (p := ⟨gm, a, none⟩) (.inl rfl) (.int .i64 (metN L (S.take i) ((pos nm L).take k) a + 1))
                have hsm := metN_small L (S.take i) ((pos nm L).take k) a
                generalize metN L (S.take i) ((pos nm L).take k) a = z at m0 hms hks hsm
                have gz : IntKind.i64.wrap (z + 1) = z + 1 := IntWalk.i64_in _ ⟨by omega, by omega⟩
                rw [← hpt.2] at hms
                have HMN := Lib.hid (And.intro hks hms)
                have ha0 : (0 : Int) ≤ (a : Int) := by omega
                have haI : (a : Int) < (N : Int) := by omega
                clear hmq hpt hms hks hsm
                go_wp2_with fail
                go_roundw
                case rel => exact ⟨k + 1, by go_num, by omega, HMN⟩
                case measure => simp [intOf]; omega
              · have hkn : ¬ 0 < k := by omega
                have lx := fun t => ((hFk t).box HBX.out (fun h => h)).cell 0
                have lk := fun t => ((HK5.out.trans (hFk t) (fun _ _ h => h)).cell (p := ⟨bl, k, none⟩) HBL.out.1 (fun h => h)).trans HBL.out.2
                have lS := fun t => ((HKK.out.trans (HK5.out.trans (hFk t) (fun _ _ h => h)) (fun _ _ h => h)).cell (p := ⟨bn, i, none⟩) HCI.out.1 (fun h => h)).trans HCI.out.2
                have HFK := Lib.hid hFk
                have HFS := Lib.hid hFs
                have hnt : Nonempty T := ⟨t0⟩
                clear hFk hFs
                refine wp_region_class Fw t0 ht0 (by kernel_rfl) (by kernel_rfl) ?_
                repeat (go_big_quiet_step (fail))
                refine wpQuiet_nil ?_
                rintro _ ⟨tz, rfl⟩
                have hkz := HFK.out tz
                generalize Fw tz = wq at hkz ⊢
                have HKQ := Lib.hid (HK5.out.trans hkz (fun _ _ h => h))
                clear hkz lx lk lS hkn HFK HFS hrn
                have hmq := HRK.out.2.kept HKQ.out
                have aL : a < L.length := by rw [hLn]; exact haN
                have m0 := hmq.cell aL
                have m1 := hmq.free a
                have k0 := (HKQ.out.cell (p := ⟨bl, k, none⟩) HBL.out.1 (fun h => h)).trans HBL.out.2
                have hpt := pos_take HA.out.1
                have hms := hmq.step hpt.1
                have hks := (HRK.out.1.trans HKQ.out (fun _ _ h => absurd h (fun h => h))).setCell (p := ⟨gm, a, none⟩) (.inl rfl) (.int .i64 (metN L (S.take i) ((pos nm L).take k) a + 1))
                have hsm := metN_small L (S.take i) ((pos nm L).take k) a
                generalize metN L (S.take i) ((pos nm L).take k) a = z at m0 hms hks hsm
                have gz : IntKind.i64.wrap (z + 1) = z + 1 := IntWalk.i64_in _ ⟨by omega, by omega⟩
                rw [← hpt.2] at hms
                have HMN := Lib.hid (And.intro hks hms)
                have ha0 : (0 : Int) ≤ (a : Int) := by omega
                have haI : (a : Int) < (N : Int) := by omega
                clear hmq hpt hms hks hsm
                go_wp2_with fail
                go_roundw
                case rel => exact ⟨k + 1, by go_num, by omega, HMN⟩
                case measure => simp [intOf]; omega
            · obtain rfl : k = (pos nm L).length := by omega
              have hge : ¬ ((pos nm L).length : Int) < ((pos nm L).length : Int) := by omega
              have hfr := take_fresh HS.out.1 HNM.out
              have hnx := HRK.out.2
              rw [List.take_length] at hnx
              have hnx2 := hnx.next hfr.1
              rw [← hfr.2] at hnx2
              have HNX := Lib.hid (And.intro HKK.out hnx2)
              clear hkt hk hfr hnx hnx2
              go_wp2_with fail
              go_roundw
              case rel => exact ⟨i + 1, by go_num, by omega, HNX⟩
              case measure => simp [intOf]; omega
      · obtain rfl : i = S.length := by omega
        have hge : ¬ (S.length : Int) < (S.length : Int) := by omega
        have hmt := HR9.out.2
        rw [List.take_length] at hmt
        have HALL := Lib.hid (And.intro hmt.lt (fun (n : Nat) (hn : n < N) => hmt.all (fun x hx => (HS.out.2 x).2 hx) (n := n) (by rw [hLn]; exact hn)))
        have HKR := Lib.hid HR9.out.1
        clear hlt hi hmt HR9
        go_wp2_with fail
        go_loopw [14] (fun v14 wn => ∃ n : Nat, v14 = .int .i64 (n : Int) ∧ n ≤ N ∧ Hid (Kept (fun _ => False) wr wn)) (fun v14 _ => N - (intOf v14).toNat)
        case atStart => exact ⟨0, rfl, Nat.zero_le _, Lib.hid (Kept.refl _ _)⟩
        case round =>
          obtain ⟨n, rfl, hn, HKN⟩ := hrel
          rename World => wn
          by_cases hnt : n < N
          · have hn0 : (0 : Int) ≤ (n : Int) := by omega
            have hnI : (n : Int) < (N : Int) := by omega
            have c1 := (HKN.out.cell (p := ⟨gm, n, none⟩) HALL.out.1 (fun h => h)).trans (HALL.out.2 n hnt)
            obtain ⟨r, hr⟩ : ∃ r, rs[n]? = some r := ⟨_, List.getElem?_eq_getElem (by have := HLR.out.1; omega)⟩
            obtain ⟨p, s0, rp0, pr0⟩ := r
            have HR := Lib.hid hr
            have HPK := Lib.hid (HPA.out wn ((HK4.out.trans HKR.out (fun _ _ h => h)).trans HKN.out (fun _ _ h => h)) n _ hr)
            have HPO := Lib.hid (HOK.out _ (List.mem_of_getElem? hr))
            clear hr
            go_wp2_with fail
            refine HPK.out.mono ?_
            rintro e wp ⟨⟨s', rfl, hN⟩, hkp⟩
            obtain ⟨q4, q5, q6, q7, q8, q9, q10, q11, q12⟩ := s'
            obtain ⟨f4, h4, e4, _⟩ := hN.here.pv
            obtain ⟨f5, h5, e5, _⟩ := hN.here.rq
            obtain ⟨f6, h6, e6, _⟩ := hN.here.cf
            obtain ⟨f7, h7, e7, _⟩ := hN.here.ob
            obtain ⟨f8, h8, e8, _⟩ := hN.here.rc
            obtain ⟨f9, h9, e9, _⟩ := hN.here.sp
            obtain ⟨f10, h10, e10, _⟩ := hN.here.sg
            obtain ⟨f11, h11, e11, _⟩ := hN.here.en
            obtain ⟨f12, h12, e12, _⟩ := hN.here.fi
            dsimp only at e4 e5 e6 e7 e8 e9 e10 e11 e12
            subst e4; subst e5; subst e6; subst e7; subst e8; subst e9; subst e10; subst e11; subst e12
            have hbx := Box.made wp 28 #[.string p.nm, .int .i64 p.n, .string p.v, .string p.r, .int .u8 (p.a : Int), .string p.vd, .slice f4 p.pv.length h4, .slice f5 p.rq.length h5, .slice f6 p.cf.length h6, .slice f7 p.ob.length h7, .slice f8 p.rc.length h8, .slice f9 p.sp.length h9, .slice f10 p.sg.length h10, .slice f11 p.en.length h11, .slice f12 p.fi.length h12]
            have hk5 := hkp.alloc (.cells #[.string p.nm, .int .i64 p.n, .string p.v, .string p.r, .int .u8 (p.a : Int), .string p.vd, .slice f4 p.pv.length h4, .slice f5 p.rq.length h5, .slice f6 p.cf.length h6, .slice f7 p.ob.length h7, .slice f8 p.rc.length h8, .slice f9 p.sp.length h9, .slice f10 p.sg.length h10, .slice f11 p.en.length h11, .slice f12 p.fi.length h12] 28)
            have HN5 := Lib.hid (hN.here.kept ((Kept.refl (fun _ => False) wp).alloc (.cells #[.string p.nm, .int .i64 p.n, .string p.v, .string p.r, .int .u8 (p.a : Int), .string p.vd, .slice f4 p.pv.length h4, .slice f5 p.rq.length h5, .slice f6 p.cf.length h6, .slice f7 p.ob.length h7, .slice f8 p.rc.length h8, .slice f9 p.sp.length h9, .slice f10 p.sg.length h10, .slice f11 p.en.length h11, .slice f12 p.fi.length h12] 28)))
            have HBX := Lib.hid hbx
            have HK5 := Lib.hid (HKN.out.trans hk5 (fun _ _ h => h))
            clear hN hbx hkp hk5 c1
            go_wp2_with fail
            generalize wp.alloc (.cells #[.string p.nm, .int .i64 p.n, .string p.v, .string p.r, .int .u8 (p.a : Int), .string p.vd, .slice f4 p.pv.length h4, .slice f5 p.rq.length h5, .slice f6 p.cf.length h6, .slice f7 p.ob.length h7, .slice f8 p.rc.length h8, .slice f9 p.sp.length h9, .slice f10 p.sg.length h10, .slice f11 p.en.length h11, .slice f12 p.fi.length h12] 28) = w5 at HBX HK5 HN5 ⊢
            obtain ⟨gx, hgx⟩ : ∃ g, g = wp.heap.size := ⟨_, rfl⟩
            rw [← hgx] at HBX ⊢
            clear hgx
            go_loopw [17] (fun v17 wm => ∃ m : Nat, v17 = .int .i64 (m : Int) ∧ m ≤ N ∧ Hid (Kept (fun _ => False) w5 wm)) (fun v17 _ => N - (intOf v17).toNat)
            case atStart => exact ⟨0, rfl, Nat.zero_le _, Lib.hid (Kept.refl _ _)⟩
            case round =>
              obtain ⟨m, rfl, hm, HKM⟩ := hrel
              rename World => wm
              by_cases hmt : m < N
              · have hm0 : (0 : Int) ≤ (m : Int) := by omega
                have hmI : (m : Int) < (N : Int) := by omega
                obtain ⟨r, hr⟩ : ∃ r, rs[m]? = some r := ⟨_, List.getElem?_eq_getElem (by have := HLR.out.1; omega)⟩
                obtain ⟨q, s1, rp1, pr1⟩ := r
                have HRM := Lib.hid hr
                have HB3 := Lib.hid ((HK4.out.trans HKR.out (fun _ _ h => h)).trans (HK5.out.trans HKM.out (fun _ _ h => h)) (fun _ _ h => h))
                have HPM := Lib.hid (HPA.out wm HB3.out m _ hr)
                have HQO := Lib.hid (HOK.out _ (List.mem_of_getElem? hr))
                clear hr
                go_wp2_with fail
                refine HPM.out.mono ?_
                rintro e wq ⟨⟨s', rfl, hN⟩, hkp⟩
                obtain ⟨q4, q5, q6, q7, q8, q9, q10, q11, q12⟩ := s'
                obtain ⟨m4, n4, e4, _⟩ := hN.here.pv
                obtain ⟨m5, n5, e5, _⟩ := hN.here.rq
                obtain ⟨m6, n6, e6, _⟩ := hN.here.cf
                obtain ⟨m7, n7, e7, _⟩ := hN.here.ob
                obtain ⟨m8, n8, e8, _⟩ := hN.here.rc
                obtain ⟨m9, n9, e9, _⟩ := hN.here.sp
                obtain ⟨m10, n10, e10, _⟩ := hN.here.sg
                obtain ⟨m11, n11, e11, _⟩ := hN.here.en
                obtain ⟨m12, n12, e12, _⟩ := hN.here.fi
                dsimp only at e4 e5 e6 e7 e8 e9 e10 e11 e12
                subst e4; subst e5; subst e6; subst e7; subst e8; subst e9; subst e10; subst e11; subst e12
                have hby := Box.made wq 28 #[.string q.nm, .int .i64 q.n, .string q.v, .string q.r, .int .u8 (q.a : Int), .string q.vd, .slice m4 q.pv.length n4, .slice m5 q.rq.length n5, .slice m6 q.cf.length n6, .slice m7 q.ob.length n7, .slice m8 q.rc.length n8, .slice m9 q.sp.length n9, .slice m10 q.sg.length n10, .slice m11 q.en.length n11, .slice m12 q.fi.length n12]
                have hk6 := hkp.alloc (.cells #[.string q.nm, .int .i64 q.n, .string q.v, .string q.r, .int .u8 (q.a : Int), .string q.vd, .slice m4 q.pv.length n4, .slice m5 q.rq.length n5, .slice m6 q.cf.length n6, .slice m7 q.ob.length n7, .slice m8 q.rc.length n8, .slice m9 q.sp.length n9, .slice m10 q.sg.length n10, .slice m11 q.en.length n11, .slice m12 q.fi.length n12] 28)
                have HBY := Lib.hid hby
                have HK6 := Lib.hid hk6
                clear hN hby hkp hk6
                go_wp2_with fail
                generalize wq.alloc (.cells #[.string q.nm, .int .i64 q.n, .string q.v, .string q.r, .int .u8 (q.a : Int), .string q.vd, .slice m4 q.pv.length n4, .slice m5 q.rq.length n5, .slice m6 q.cf.length n6, .slice m7 q.ob.length n7, .slice m8 q.rc.length n8, .slice m9 q.sp.length n9, .slice m10 q.sg.length n10, .slice m11 q.en.length n11, .slice m12 q.fi.length n12] 28) = w6 at HBY HK6 ⊢
                obtain ⟨gy, hgy⟩ : ∃ g, g = wq.heap.size := ⟨_, rfl⟩
                rw [← hgy] at HBY ⊢
                clear hgy
                refine (HOB.out w6 (HB3.out.trans HK6.out (fun _ _ h => h)) (n : Int) (m : Int)).mono ?_
                rintro e w7 ⟨rfl, hk7⟩
                have HKX := Lib.hid ((HKM.out.trans HK6.out (fun _ _ h => h)).trans hk7 (fun _ _ h => h))
                have HKY := Lib.hid hk7
                clear hk7
                by_cases hnm : (n : Int) = (m : Int)
                · have hz : obsN rs (n : Int) (m : Int) = false := by unfold obsN; rw [decide_eq_true hnm]; cases rowN rs (n : Int) <;> cases rowN rs (m : Int) <;> rfl
                  rw [hz]
                  have hbn : ((n : Int) != (m : Int)) = false := by rw [hnm]; exact bne_self_eq_false _
                  have HKZ := HKX
                  clear hz hnm
                  go_wp2_with fail
                  go_roundw
                  case rel => exact ⟨m + 1, by go_num, by omega, HKZ⟩
                  case measure => simp [intOf]; omega
                · have hz : obsN rs (n : Int) (m : Int) = obsB p q := by unfold obsN; rw [rowN_some HR.out, rowN_some HRM.out, decide_eq_false hnm]; rfl
                  rw [hz]
                  have hbn : ((n : Int) != (m : Int)) = true := bne_iff_ne.2 hnm
                  have hbx := HKX.out.box HBX.out (fun h => h)
                  have hby := HKY.out.box HBY.out (fun h => h)
                  have lx := run_loadPq (g := gx) (o := 0) (cs := #[.string p.nm, .int .i64 p.n, .string p.v, .string p.r, .int .u8 (p.a : Int), .string p.vd, .slice f4 p.pv.length h4, .slice f5 p.rq.length h5, .slice f6 p.cf.length h6, .slice f7 p.ob.length h7, .slice f8 p.rc.length h8, .slice f9 p.sp.length h9, .slice f10 p.sg.length h10, .slice f11 p.en.length h11, .slice f12 p.fi.length h12]) (w := w7) (fun j x hx => by rw [Nat.zero_add, hbx.cell]; exact hx) rfl
                  have ly := run_loadPq (g := gy) (o := 0) (cs := #[.string q.nm, .int .i64 q.n, .string q.v, .string q.r, .int .u8 (q.a : Int), .string q.vd, .slice m4 q.pv.length n4, .slice m5 q.rq.length n5, .slice m6 q.cf.length n6, .slice m7 q.ob.length n7, .slice m8 q.rc.length n8, .slice m9 q.sp.length n9, .slice m10 q.sg.length n10, .slice m11 q.en.length n11, .slice m12 q.fi.length n12]) (w := w7) (fun j x hx => by rw [Nat.zero_add, hby.cell]; exact hx) rfl
                  have HC := Lib.hid (show Calls Tryz.prog 36 #[.agg #[.string p.nm, .int .i64 p.n, .string p.v, .string p.r, .int .u8 (p.a : Int), .string p.vd, .slice f4 p.pv.length h4, .slice f5 p.rq.length h5, .slice f6 p.cf.length h6, .slice f7 p.ob.length h7, .slice f8 p.rc.length h8, .slice f9 p.sp.length h9, .slice f10 p.sg.length h10, .slice f11 p.en.length h11, .slice f12 p.fi.length h12], .agg #[.string q.nm, .int .i64 q.n, .string q.v, .string q.r, .int .u8 (q.a : Int), .string q.vd, .slice m4 q.pv.length n4, .slice m5 q.rq.length n5, .slice m6 q.cf.length n6, .slice m7 q.ob.length n7, .slice m8 q.rc.length n8, .slice m9 q.sp.length n9, .slice m10 q.sg.length n10, .slice m11 q.en.length n11, .slice m12 q.fi.length n12]] w7 (fun e w' => e = .returned (.bool (obsB p q)) ∧ Kept (fun _ => False) w7 w') from
                    obs10_walk p q (⟨.slice f4 p.pv.length h4, .slice f5 p.rq.length h5, .slice f6 p.cf.length h6, .slice f7 p.ob.length h7, .slice f8 p.rc.length h8, .slice f9 p.sp.length h9, .slice f10 p.sg.length h10, .slice f11 p.en.length h11, .slice f12 p.fi.length h12⟩ : Sl) (⟨.slice m4 q.pv.length n4, .slice m5 q.rq.length n5, .slice m6 q.cf.length n6, .slice m7 q.ob.length n7, .slice m8 q.rc.length n8, .slice m9 q.sp.length n9, .slice m10 q.sg.length n10, .slice m11 q.en.length n11, .slice m12 q.fi.length n12⟩ : Sl) w7 (HN5.out.kept HKX.out) (by have h : p.ob.length ≤ 100 := HPO.out.1.obl; omega) (may_obok HPO.out.2.2 HPO.out.2.1) (by have h : q.nm.size ≤ 1000 := HQO.out.1.nm; omega) (by have h : q.v.size ≤ 1000 := HQO.out.1.v; omega) (by have h : q.r.size ≤ 1000 := HQO.out.1.r; omega))
                  clear hz hbx hby
                  go_wp2_with fail
                  refine HC.out.mono ?_
                  rintro e w8 ⟨rfl, hk8⟩
                  have HKZ := Lib.hid (HKX.out.trans hk8 (fun _ _ h => h))
                  clear hk8 lx ly
                  go_wp2_with fail
                  go_roundw
                  case rel => exact ⟨m + 1, by go_num, by omega, HKZ⟩
                  case measure => simp [intOf]; omega
              · have hge3 : ¬ (m : Int) < (N : Int) := by omega
                have HKZ := Lib.hid (HK5.out.trans HKM.out (fun _ _ h => h))
                clear hm
                go_wp2_with fail
                go_roundw
                case rel => exact ⟨n + 1, by go_num, by omega, HKZ⟩
                case measure => simp [intOf]; omega
          · have hge2 : ¬ (n : Int) < (N : Int) := by omega
            clear hn
            go_wp2_with fail
            go_ret
            exact ⟨rfl, ((HK3.out.trans HK4.out (fun _ _ h => h)).trans HKR.out (fun _ _ h => h)).trans HKN.out (fun _ _ h => h)⟩
end Go.Proofs.YtlpalepkomkngaaGreatDoor
