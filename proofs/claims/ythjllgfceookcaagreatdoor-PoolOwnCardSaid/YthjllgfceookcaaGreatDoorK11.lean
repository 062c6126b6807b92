/-
  The walk over what the laws of pools ask of a package first: whether it is more than a statement goes over. The walks over the program's own text of layer 4: the map of the Ops' texts, and what is found in it. Conditions: as each theorem states.
-/
import Derived.Test.YthjllgfceookcaaGreatDoorK02
import Derived.Test.YthjllgfceookcaaGreatDoorK03
import Derived.Test.YthjllgfceookcaaGreatDoorK10
import Derived.Test.YthjllgfceookcaaGreatDoorK01
import Derived.Test.YthjllgfceookcaaGreatDoorRows
import Derived.Maps.RangeWalk
import Derived.Maps.OwnSet
import Derived.StringKeys
import Derived.Handy
import Derived.Lib.Hide
namespace Go.Proofs.YthjllgfceookcaaGreatDoor
open Go.RowKit Ver Evr Span Dep Rich

/-- No more than a statement on pools goes over. -/
structure PkMid (p : Pk) : Prop where
  pvl : p.pv.length ≤ 100
  obl : p.ob.length ≤ 100
  fil : p.fi.length ≤ 100
  nm : p.nm.size ≤ 1000
  vd : p.vd.size ≤ 1000
  v : p.v.size ≤ 1000
  r : p.r.size ≤ 1000
  rq : smallRs p.rq
  cf : smallRs p.cf
  rc : smallRs p.rc
  sp : smallRs p.sp
  sg : smallRs p.sg
  en : smallRs p.en
/-- What large answers. -/
def AnsMid (p : Pk) (w : World) (e : Ending) (w' : World) : Prop := (∃ b, e = .returned (.bool b) ∧ (b = false → PkMid p)) ∧ Kept (fun _ => False) w w'
theorem AnsMid.yes {p : Pk} {w w' : World} {e : Ending} (he : e = .returned (.bool true)) (h : Kept (fun _ => False) w w') : AnsMid p w e w' := ⟨⟨true, he, fun h => by cases h⟩, h⟩
set_option maxRecDepth 100000 in
set_option maxHeartbeats 16000000 in
theorem large12_core (pv ob : List De) (fi : List ByteArray) (rq cf rc sp sg en : List R) (nm : ByteArray) (n : Int) (v r : ByteArray) (a : Nat) (vd : ByteArray) (a4 : Option Addr) (c4 : Nat) (a5 : Option Addr) (c5 : Nat) (a6 : Option Addr) (c6 : Nat) (a7 : Option Addr) (c7 : Nat) (a8 : Option Addr) (c8 : Nat) (a9 : Option Addr) (c9 : Nat) (a10 : Option Addr) (c10 : Nat) (a11 : Option Addr) (c11 : Nat) (a12 : Option Addr) (c12 : Nat) (w : World)
    (h5 : ArgS w a5 0 rq) (f5 : fitsLs rq) (h6 : ArgS w a6 0 cf) (f6 : fitsLs cf) (h8 : ArgS w a8 0 rc) (f8 : fitsLs rc) (h9 : ArgS w a9 0 sp) (f9 : fitsLs sp) (h10 : ArgS w a10 0 sg) (f10 : fitsLs sg) (h11 : ArgS w a11 0 en) (f11 : fitsLs en)
    (b4 : pv.length < 140737488355328) (b7 : ob.length < 140737488355328) (b12 : fi.length < 140737488355328)
    (bn : nm.size < 140737488355328) (bv : v.size < 140737488355328) (br : r.size < 140737488355328) (bd : vd.size < 140737488355328) :
    Calls Tryz.prog 45 #[.agg #[.string nm, .int .i64 n, .string v, .string r, .int .u8 (a : Int), .string vd, .slice a4 pv.length c4, .slice a5 rq.length c5, .slice a6 cf.length c6, .slice a7 ob.length c7, .slice a8 rc.length c8, .slice a9 sp.length c9, .slice a10 sg.length c10, .slice a11 en.length c11, .slice a12 fi.length c12]] w (AnsMid ⟨nm, n, v, r, a, vd, pv, rq, cf, ob, rc, sp, sg, en, fi⟩ w) := by
  have HA := Lib.hid (Box.made w 48 #[.string nm, .int .i64 n, .string v, .string r, .int .u8 (a : Int), .string vd, .slice a4 pv.length c4, .slice a5 rq.length c5, .slice a6 cf.length c6, .slice a7 ob.length c7, .slice a8 rc.length c8, .slice a9 sp.length c9, .slice a10 sg.length c10, .slice a11 en.length c11, .slice a12 fi.length c12])
  have HK := Lib.hid ((Kept.refl (fun _ => False) w).alloc (.cells #[.string nm, .int .i64 n, .string v, .string r, .int .u8 (a : Int), .string vd, .slice a4 pv.length c4, .slice a5 rq.length c5, .slice a6 cf.length c6, .slice a7 ob.length c7, .slice a8 rc.length c8, .slice a9 sp.length c9, .slice a10 sg.length c10, .slice a11 en.length c11, .slice a12 fi.length c12] 48))
  have H5 := Lib.hid h5
  have F5 := Lib.hid f5
  have H6 := Lib.hid h6
  have F6 := Lib.hid f6
  have H8 := Lib.hid h8
  have F8 := Lib.hid f8
  have H9 := Lib.hid h9
  have F9 := Lib.hid f9
  have H10 := Lib.hid h10
  have F10 := Lib.hid f10
  have H11 := Lib.hid h11
  have F11 := Lib.hid f11
  clear h5 f5 h6 f6 h8 f8 h9 f9 h10 f10 h11 f11
  have ax0 := HA.out.cell 0
  have ax1 := HA.out.cell 1
  have ax2 := HA.out.cell 2
  have ax3 := HA.out.cell 3
  have ax4 := HA.out.cell 4
  have ax5 := HA.out.cell 5
  have ax6 := HA.out.cell 6
  have ax7 := HA.out.cell 7
  have ax8 := HA.out.cell 8
  have ax9 := HA.out.cell 9
  have ax10 := HA.out.cell 10
  have ax11 := HA.out.cell 11
  have ax12 := HA.out.cell 12
  have ax13 := HA.out.cell 13
  have ax14 := HA.out.cell 14
  by_cases q0 : 100 < pv.length
  · have g0 : (100 : Int) < (pv.length : Int) := by omega
    clear q0
    go_enter Tryz.func45, Tryz.ntmps45
    go_wp2_with fail
    go_ret
    exact AnsMid.yes rfl HK.out
  have g0 : ¬ (100 : Int) < (pv.length : Int) := by omega
  by_cases q1 : 100 < ob.length
  · have g1 : (100 : Int) < (ob.length : Int) := by omega
    clear q1
    go_enter Tryz.func45, Tryz.ntmps45
    go_wp2_with fail
    go_ret
    exact AnsMid.yes rfl HK.out
  have g1 : ¬ (100 : Int) < (ob.length : Int) := by omega
  by_cases q2 : 100 < fi.length
  · have g2 : (100 : Int) < (fi.length : Int) := by omega
    clear q2
    go_enter Tryz.func45, Tryz.ntmps45
    go_wp2_with fail
    go_ret
    exact AnsMid.yes rfl HK.out
  have g2 : ¬ (100 : Int) < (fi.length : Int) := by omega
  by_cases q3 : 1000 < nm.size
  · have g3 : (1000 : Int) < (nm.size : Int) := by omega
    clear q3
    go_enter Tryz.func45, Tryz.ntmps45
    go_wp2_with fail
    go_ret
    exact AnsMid.yes rfl HK.out
  have g3 : ¬ (1000 : Int) < (nm.size : Int) := by omega
  by_cases q4 : 1000 < vd.size
  · have g4 : (1000 : Int) < (vd.size : Int) := by omega
    clear q4
    go_enter Tryz.func45, Tryz.ntmps45
    go_wp2_with fail
    go_ret
    exact AnsMid.yes rfl HK.out
  have g4 : ¬ (1000 : Int) < (vd.size : Int) := by omega
  by_cases q5 : 1000 < v.size
  · have g5 : (1000 : Int) < (v.size : Int) := by omega
    clear q5
    go_enter Tryz.func45, Tryz.ntmps45
    go_wp2_with fail
    go_ret
    exact AnsMid.yes rfl HK.out
  have g5 : ¬ (1000 : Int) < (v.size : Int) := by omega
  by_cases q6 : 1000 < r.size
  · have g6 : (1000 : Int) < (r.size : Int) := by omega
    clear q6
    go_enter Tryz.func45, Tryz.ntmps45
    go_wp2_with fail
    go_ret
    exact AnsMid.yes rfl HK.out
  have g6 : ¬ (1000 : Int) < (r.size : Int) := by omega
  have HQ := Lib.hid (And.intro (show pv.length ≤ 100 by omega) (And.intro (show ob.length ≤ 100 by omega) (And.intro (show fi.length ≤ 100 by omega) (And.intro (show nm.size ≤ 1000 by omega) (And.intro (show vd.size ≤ 1000 by omega) (And.intro (show v.size ≤ 1000 by omega) (show r.size ≤ 1000 by omega)))))))
  clear q0 q1 q2 q3 q4 q5 q6
  go_enter Tryz.func45, Tryz.ntmps45
  go_wp2_with fail
  clear g0 g1 g2 g3 g4 g5 g6 ax0 ax1 ax2 ax3 ax4 ax5 ax6 ax7 ax8 ax9 ax10 ax11 ax12 ax13 ax14
  have hB2 := Box.made (w.alloc (.cells #[.string nm, .int .i64 n, .string v, .string r, .int .u8 (a : Int), .string vd, .slice a4 pv.length c4, .slice a5 rq.length c5, .slice a6 cf.length c6, .slice a7 ob.length c7, .slice a8 rc.length c8, .slice a9 sp.length c9, .slice a10 sg.length c10, .slice a11 en.length c11, .slice a12 fi.length c12] 48)) 46 #[.slice a5 rq.length c5, .slice a6 cf.length c6, .slice a8 rc.length c8, .slice a9 sp.length c9, .slice a10 sg.length c10, .slice a11 en.length c11]
  have hK2 := HK.out.alloc (.cells #[.slice a5 rq.length c5, .slice a6 cf.length c6, .slice a8 rc.length c8, .slice a9 sp.length c9, .slice a10 sg.length c10, .slice a11 en.length c11] 46)
  simp only [World.size_alloc] at hB2
  generalize ((w.alloc (.cells #[.string nm, .int .i64 n, .string v, .string r, .int .u8 (a : Int), .string vd, .slice a4 pv.length c4, .slice a5 rq.length c5, .slice a6 cf.length c6, .slice a7 ob.length c7, .slice a8 rc.length c8, .slice a9 sp.length c9, .slice a10 sg.length c10, .slice a11 en.length c11, .slice a12 fi.length c12] 48)).alloc (.cells #[.slice a5 rq.length c5, .slice a6 cf.length c6, .slice a8 rc.length c8, .slice a9 sp.length c9, .slice a10 sg.length c10, .slice a11 en.length c11] 46)) = w2 at hB2 hK2 ⊢
  have HB2 := Lib.hid hB2
  have HK2 := Lib.hid hK2
  clear HA HK hB2 hK2
  go_loopw [3, 64] (fun v3 v64 wr => ∃ (i c : Nat), v3 = .int .i64 (c : Int) ∧ v64 = .int .i64 (i : Int) ∧ i ≤ 6 ∧ c ≤ 2000 ∧ Hid ((0 < i → smallRs rq) ∧ (1 < i → smallRs cf) ∧ (2 < i → smallRs rc) ∧ (3 < i → smallRs sp) ∧ (4 < i → smallRs sg) ∧ (5 < i → smallRs en)) ∧ Hid (Kept (fun _ => False) w2 wr)) (fun _ v64 _ => 6 - (intOf v64).toNat)
  case atStart => exact ⟨0, 0, rfl, rfl, by omega, by omega, Lib.hid ⟨fun h => absurd h (by omega), fun h => absurd h (by omega), fun h => absurd h (by omega), fun h => absurd h (by omega), fun h => absurd h (by omega), fun h => absurd h (by omega)⟩, Lib.hid (Kept.refl _ _)⟩
  case round =>
    obtain ⟨i, c, rfl, rfl, hi, hc3, HN, HW⟩ := hrel
    rename World => wl
    have HB3 := Lib.hid (HW.out.box HB2.out (fun h => h))
    have HK9 := Lib.hid (HK2.out.trans HW.out (fun _ _ h => h))
    have hi7 : i = 0 ∨ i = 1 ∨ i = 2 ∨ i = 3 ∨ i = 4 ∨ i = 5 ∨ i = 6 := by omega
    rcases hi7 with rfl | rfl | rfl | rfl | rfl | rfl | rfl
    · have c0 := HB3.out.cell 0
      have MC := much12_walk rq a5 c5 wl 0 (by omega) (ArgS.kept HK9.out a5 0 rq H5.out) F5.out.1 F5.out.2
      rw [show (((0 : Nat) : Int)) = 0 from rfl] at MC
      have HMC := Lib.hid MC
      clear MC hi
      go_wp2_with fail
      refine HMC.out.mono ?_
      rintro e w9 ⟨⟨v9, rfl, m, is, rfl, hm, hs⟩, hk9⟩
      have HS0 := Lib.hid hs
      have HKA := Lib.hid (HK9.out.trans hk9 (fun _ _ h => h))
      have HWA := Lib.hid (HW.out.trans hk9 (fun _ _ h => h))
      clear hs hk9
      cases is with
      | true =>
        go_wp2_with fail
        go_ret
        exact AnsMid.yes rfl HKA.out
      | false =>
        by_cases hbig : 2000 < c + m
        · have hbI : (2000 : Int) < (c : Int) + (m : Int) := by omega
          clear hbig
          go_wp2_with fail
          go_ret
          exact AnsMid.yes rfl HKA.out
        · have hbI : ¬ (2000 : Int) < (c : Int) + (m : Int) := by omega
          have hcn : c + m ≤ 2000 := by omega
          have HS := Lib.hid (show smallRs rq from ⟨by rw [← (HS0.out rfl).1]; exact hm, (HS0.out rfl).2⟩)
          clear hbig
          go_wp2_with fail
          go_roundw
          case rel => exact ⟨1, c + m, by go_num, by first | rfl | go_num, by omega, hcn, Lib.hid ⟨fun _ => HS.out, fun h => absurd h (by omega), fun h => absurd h (by omega), fun h => absurd h (by omega), fun h => absurd h (by omega), fun h => absurd h (by omega)⟩, HWA⟩
          case measure => simp [intOf]
    · have c0 := HB3.out.cell 1
      have MC := much12_walk cf a6 c6 wl 0 (by omega) (ArgS.kept HK9.out a6 0 cf H6.out) F6.out.1 F6.out.2
      rw [show (((0 : Nat) : Int)) = 0 from rfl] at MC
      have HMC := Lib.hid MC
      clear MC hi
      go_wp2_with fail
      refine HMC.out.mono ?_
      rintro e w9 ⟨⟨v9, rfl, m, is, rfl, hm, hs⟩, hk9⟩
      have HS0 := Lib.hid hs
      have HKA := Lib.hid (HK9.out.trans hk9 (fun _ _ h => h))
      have HWA := Lib.hid (HW.out.trans hk9 (fun _ _ h => h))
      clear hs hk9
      cases is with
      | true =>
        go_wp2_with fail
        go_ret
        exact AnsMid.yes rfl HKA.out
      | false =>
        by_cases hbig : 2000 < c + m
        · have hbI : (2000 : Int) < (c : Int) + (m : Int) := by omega
          clear hbig
          go_wp2_with fail
          go_ret
          exact AnsMid.yes rfl HKA.out
        · have hbI : ¬ (2000 : Int) < (c : Int) + (m : Int) := by omega
          have hcn : c + m ≤ 2000 := by omega
          have HS := Lib.hid (show smallRs cf from ⟨by rw [← (HS0.out rfl).1]; exact hm, (HS0.out rfl).2⟩)
          clear hbig
          go_wp2_with fail
          go_roundw
          case rel => exact ⟨2, c + m, by go_num, by first | rfl | go_num, by omega, hcn, Lib.hid ⟨fun _ => HN.out.1 (by omega), fun _ => HS.out, fun h => absurd h (by omega), fun h => absurd h (by omega), fun h => absurd h (by omega), fun h => absurd h (by omega)⟩, HWA⟩
          case measure => simp [intOf]
    · have c0 := HB3.out.cell 2
      have MC := much12_walk rc a8 c8 wl 0 (by omega) (ArgS.kept HK9.out a8 0 rc H8.out) F8.out.1 F8.out.2
      rw [show (((0 : Nat) : Int)) = 0 from rfl] at MC
      have HMC := Lib.hid MC
      clear MC hi
      go_wp2_with fail
      refine HMC.out.mono ?_
      rintro e w9 ⟨⟨v9, rfl, m, is, rfl, hm, hs⟩, hk9⟩
      have HS0 := Lib.hid hs
      have HKA := Lib.hid (HK9.out.trans hk9 (fun _ _ h => h))
      have HWA := Lib.hid (HW.out.trans hk9 (fun _ _ h => h))
      clear hs hk9
      cases is with
      | true =>
        go_wp2_with fail
        go_ret
        exact AnsMid.yes rfl HKA.out
      | false =>
        by_cases hbig : 2000 < c + m
        · have hbI : (2000 : Int) < (c : Int) + (m : Int) := by omega
          clear hbig
          go_wp2_with fail
          go_ret
          exact AnsMid.yes rfl HKA.out
        · have hbI : ¬ (2000 : Int) < (c : Int) + (m : Int) := by omega
          have hcn : c + m ≤ 2000 := by omega
          have HS := Lib.hid (show smallRs rc from ⟨by rw [← (HS0.out rfl).1]; exact hm, (HS0.out rfl).2⟩)
          clear hbig
          go_wp2_with fail
          go_roundw
          case rel => exact ⟨3, c + m, by go_num, by first | rfl | go_num, by omega, hcn, Lib.hid ⟨fun _ => HN.out.1 (by omega), fun _ => HN.out.2.1 (by omega), fun _ => HS.out, fun h => absurd h (by omega), fun h => absurd h (by omega), fun h => absurd h (by omega)⟩, HWA⟩
          case measure => simp [intOf]
    · have c0 := HB3.out.cell 3
      have MC := much12_walk sp a9 c9 wl 0 (by omega) (ArgS.kept HK9.out a9 0 sp H9.out) F9.out.1 F9.out.2
      rw [show (((0 : Nat) : Int)) = 0 from rfl] at MC
      have HMC := Lib.hid MC
      clear MC hi
      go_wp2_with fail
      refine HMC.out.mono ?_
      rintro e w9 ⟨⟨v9, rfl, m, is, rfl, hm, hs⟩, hk9⟩
      have HS0 := Lib.hid hs
      have HKA := Lib.hid (HK9.out.trans hk9 (fun _ _ h => h))
      have HWA := Lib.hid (HW.out.trans hk9 (fun _ _ h => h))
      clear hs hk9
      cases is with
      | true =>
        go_wp2_with fail
        go_ret
        exact AnsMid.yes rfl HKA.out
      | false =>
        by_cases hbig : 2000 < c + m
        · have hbI : (2000 : Int) < (c : Int) + (m : Int) := by omega
          clear hbig
          go_wp2_with fail
          go_ret
          exact AnsMid.yes rfl HKA.out
        · have hbI : ¬ (2000 : Int) < (c : Int) + (m : Int) := by omega
          have hcn : c + m ≤ 2000 := by omega
          have HS := Lib.hid (show smallRs sp from ⟨by rw [← (HS0.out rfl).1]; exact hm, (HS0.out rfl).2⟩)
          clear hbig
          go_wp2_with fail
          go_roundw
          case rel => exact ⟨4, c + m, by go_num, by first | rfl | go_num, by omega, hcn, Lib.hid ⟨fun _ => HN.out.1 (by omega), fun _ => HN.out.2.1 (by omega), fun _ => HN.out.2.2.1 (by omega), fun _ => HS.out, fun h => absurd h (by omega), fun h => absurd h (by omega)⟩, HWA⟩
          case measure => simp [intOf]
    · have c0 := HB3.out.cell 4
      have MC := much12_walk sg a10 c10 wl 0 (by omega) (ArgS.kept HK9.out a10 0 sg H10.out) F10.out.1 F10.out.2
      rw [show (((0 : Nat) : Int)) = 0 from rfl] at MC
      have HMC := Lib.hid MC
      clear MC hi
      go_wp2_with fail
      refine HMC.out.mono ?_
      rintro e w9 ⟨⟨v9, rfl, m, is, rfl, hm, hs⟩, hk9⟩
      have HS0 := Lib.hid hs
      have HKA := Lib.hid (HK9.out.trans hk9 (fun _ _ h => h))
      have HWA := Lib.hid (HW.out.trans hk9 (fun _ _ h => h))
      clear hs hk9
      cases is with
      | true =>
        go_wp2_with fail
        go_ret
        exact AnsMid.yes rfl HKA.out
      | false =>
        by_cases hbig : 2000 < c + m
        · have hbI : (2000 : Int) < (c : Int) + (m : Int) := by omega
          clear hbig
          go_wp2_with fail
          go_ret
          exact AnsMid.yes rfl HKA.out
        · have hbI : ¬ (2000 : Int) < (c : Int) + (m : Int) := by omega
          have hcn : c + m ≤ 2000 := by omega
          have HS := Lib.hid (show smallRs sg from ⟨by rw [← (HS0.out rfl).1]; exact hm, (HS0.out rfl).2⟩)
          clear hbig
          go_wp2_with fail
          go_roundw
          case rel => exact ⟨5, c + m, by go_num, by first | rfl | go_num, by omega, hcn, Lib.hid ⟨fun _ => HN.out.1 (by omega), fun _ => HN.out.2.1 (by omega), fun _ => HN.out.2.2.1 (by omega), fun _ => HN.out.2.2.2.1 (by omega), fun _ => HS.out, fun h => absurd h (by omega)⟩, HWA⟩
          case measure => simp [intOf]
    · have c0 := HB3.out.cell 5
      have MC := much12_walk en a11 c11 wl 0 (by omega) (ArgS.kept HK9.out a11 0 en H11.out) F11.out.1 F11.out.2
      rw [show (((0 : Nat) : Int)) = 0 from rfl] at MC
      have HMC := Lib.hid MC
      clear MC hi
      go_wp2_with fail
      refine HMC.out.mono ?_
      rintro e w9 ⟨⟨v9, rfl, m, is, rfl, hm, hs⟩, hk9⟩
      have HS0 := Lib.hid hs
      have HKA := Lib.hid (HK9.out.trans hk9 (fun _ _ h => h))
      have HWA := Lib.hid (HW.out.trans hk9 (fun _ _ h => h))
      clear hs hk9
      cases is with
      | true =>
        go_wp2_with fail
        go_ret
        exact AnsMid.yes rfl HKA.out
      | false =>
        by_cases hbig : 2000 < c + m
        · have hbI : (2000 : Int) < (c : Int) + (m : Int) := by omega
          clear hbig
          go_wp2_with fail
          go_ret
          exact AnsMid.yes rfl HKA.out
        · have hbI : ¬ (2000 : Int) < (c : Int) + (m : Int) := by omega
          have hcn : c + m ≤ 2000 := by omega
          have HS := Lib.hid (show smallRs en from ⟨by rw [← (HS0.out rfl).1]; exact hm, (HS0.out rfl).2⟩)
          clear hbig
          go_wp2_with fail
          go_roundw
          case rel => exact ⟨6, c + m, by go_num, by first | rfl | go_num, by omega, hcn, Lib.hid ⟨fun _ => HN.out.1 (by omega), fun _ => HN.out.2.1 (by omega), fun _ => HN.out.2.2.1 (by omega), fun _ => HN.out.2.2.2.1 (by omega), fun _ => HN.out.2.2.2.2.1 (by omega), fun _ => HS.out⟩, HWA⟩
          case measure => simp [intOf]
    · go_wp2_with fail
      go_ret
      exact ⟨⟨false, rfl, fun _ => ⟨HQ.out.1, HQ.out.2.1, HQ.out.2.2.1, HQ.out.2.2.2.1, HQ.out.2.2.2.2.1, HQ.out.2.2.2.2.2.1, HQ.out.2.2.2.2.2.2, HN.out.1 (by omega), HN.out.2.1 (by omega), HN.out.2.2.1 (by omega), HN.out.2.2.2.1 (by omega), HN.out.2.2.2.2.1 (by omega), HN.out.2.2.2.2.2 (by omega)⟩⟩, HK9.out⟩
theorem large12_walk (p : Pk) (s : Sl) (w : World) (hP : PkIn w p s) (hF : PkFits p) :
    Calls Tryz.prog 45 #[.agg (pkA p s)] w (AnsMid p w) := by
  obtain ⟨nm, n, v, r, a, vd, pv, rq, cf, ob, rc, sp, sg, en, fi⟩ := p
  obtain ⟨s4, s5, s6, s7, s8, s9, s10, s11, s12⟩ := s
  obtain ⟨a4, c4, e4, h4⟩ := hP.pv
  obtain ⟨a5, c5, e5, h5⟩ := hP.rq
  obtain ⟨a6, c6, e6, h6⟩ := hP.cf
  obtain ⟨a7, c7, e7, h7⟩ := hP.ob
  obtain ⟨a8, c8, e8, h8⟩ := hP.rc
  obtain ⟨a9, c9, e9, h9⟩ := hP.sp
  obtain ⟨a10, c10, e10, h10⟩ := hP.sg
  obtain ⟨a11, c11, e11, h11⟩ := hP.en
  obtain ⟨a12, c12, e12, h12⟩ := hP.fi
  dsimp only at e4 e5 e6 e7 e8 e9 e10 e11 e12
  subst e4; subst e5; subst e6; subst e7; subst e8; subst e9; subst e10; subst e11; subst e12
  exact large12_core pv ob fi rq cf rc sp sg en nm n v r a vd a4 c4 a5 c5 a6 c6 a7 c7 a8 c8 a9 c9 a10 c10 a11 c11 a12 c12 w h5 hF.rq h6 hF.cf h8 hF.rc h9 hF.sp h10 hF.sg h11 hF.en hF.pvl hF.obl hF.fil hF.nm hF.v hF.r hF.vd
end Go.Proofs.YthjllgfceookcaaGreatDoor

namespace Go.Proofs.YthjllgfceookcaaGreatDoor
open Go.RowKit Go.Maps Span

/-- An entry of a map literal, laid. -/
theorem wpList_entry_own {H : Type} {P : Program} (w : World) {ops : Array Oper} {rest : List Oper} {o : Oper} {a : Act} {Q : Exit → Act → World → Prop}
    (hg : o.guard = none) (m x v : Operand) (t : TypeId) (hop : o.op = Op.insert t m x v)
    (k e : TypeId) (K : Keyed P k) (ht : P.underlying t = some (.map k e)) (R : Value → Option (DataW H × List MemPlace)) (b n : Nat) (D : DataW H)
    (hm : a.eval m = .map (some b)) (hown : w.ownsMap P k R b n D) (hn : n < maxLen) (key val : Value) (kl : Lit) (hx : a.eval x = key) (hv : a.eval v = val) (hkey : keyOf P k key = some kl)
    (d : DataW H) (ps : List MemPlace) (hval : R val = some (d, ps))
    (hK : ∀ w', w'.ownsMap P k R b (n + 1) (D.put kl d) → w.grownBy w' (some b) → wpList P ops Q rest (a.put o.dst undef) w') :
    wpList P ops Q (o :: rest) a w := by
  refine wpList_plain hg fun K2 hK2 => ?_
  obtain ⟨w2, hrun, h1, h2⟩ := hown.update K ht hn hkey hval
  unfold Oper.wp
  simp [execOp, hop, hm, hx, hv, hrun, Result.andThen]
  exact hK2 _ _ (hK w2 h1 h2)

theorem key_law : Keyed Tryz.prog 9 := string_keyed Tryz.underlying9
/-- The six texts, with their Ops. -/
def opsD : DataW Unit := .map [(.string [], .lit (.int .u8 0)), (.string [60], .lit (.int .u8 1)), (.string [60, 61], .lit (.int .u8 3)), (.string [61], .lit (.int .u8 2)), (.string [62], .lit (.int .u8 4)), (.string [62, 61], .lit (.int .u8 6))]
abbrev OpsAt (w : World) (b : Nat) : Prop := w.ownsMap Tryz.prog 9 (plainElem Tryz.prog 5) b 6 opsD
theorem ops_put : (((((((.map [] : DataW Unit).put (.string []) (.lit (.int .u8 0))).put (.string [60]) (.lit (.int .u8 1))).put (.string [61]) (.lit (.int .u8 2))).put (.string [62]) (.lit (.int .u8 4))).put (.string [60, 61]) (.lit (.int .u8 3))).put (.string [62, 61]) (.lit (.int .u8 6))) = opsD := by rfl
theorem key_of (l : ByteArray) (h : l.size ≤ maxLen) : keyOf Tryz.prog 9 (.string l) = some (.string l.data.toList) := Go.WideMaps.keyOf_string_mk Tryz.underlying9 h
theorem elem_of (n : Int) (h : (Lit.int .u8 n).wf = true) : plainElem (H := Unit) Tryz.prog 5 (.int .u8 n) = some (.lit (.int .u8 n), []) := plainElem_int Tryz.underlying5 h

set_option maxRecDepth 100000 in
theorem map_walk (w : World) : Calls Tryz.prog 200 #[] w fun e w' => e = .returned (.map (some w.heap.size)) ∧ OpsAt w' w.heap.size ∧ Kept (fun _ => False) w w' := by
  have hmm := @run_makeMap Tryz.prog
  have h0 := World.ownsMap_made (H := Unit) w Tryz.prog 9 (plainElem Tryz.prog 5)
  have hk0 := (Kept.refl (fun _ => False) w).alloc (.map #[] 0)
  have HO := Lib.hid h0
  have HK := Lib.hid hk0
  clear h0 hk0
  go_enter Tryz.func200, Tryz.ntmps200
  go_wp2_with (first
    | (refine wpList_entry_own _ rfl _ _ _ 202 rfl 9 5 key_law Tryz.underlying202 _ w.heap.size _ _ rfl HO.out (by decide) _ _ _ rfl rfl (key_of _ (by decide)) _ [] (elem_of _ (by decide)) ?_; intro w1 hown1 hg1; have HO := Lib.hid hown1; have HK := Lib.hid (Kept.grown HK.out hg1 (fun j hj => by cases hj; exact .inr (Nat.le_refl _))); clear hown1 hg1)
    | go_in)
  go_ret
  exact ⟨rfl, by have h := HO.out; rw [ops_put] at h; exact h, HK.out⟩
end Go.Proofs.YthjllgfceookcaaGreatDoor
