/-
  The walk over the law ShapeTells. Conditions: as each theorem states.
-/
import Derived.Test.YtndakcognjaeoaaDoorK20
import Derived.Test.YtndakcognjaeoaaDoorK23
import Derived.Test.YtndakcognjaeoaaDoorK25
namespace Go.Proofs.YtndakcognjaeoaaDoor
open Go.RowKit Ver Evr Span Dep Rich

def tblT (x0 x1 : R) (ao0 : Option Addr) (cp0 : Nat) (ao1 : Option Addr) (cp1 : Nat) (aw : Option Addr) (cw wh : Nat) : List KdT := [.lit (.agg (richA x0.kind x0.dep (.slice ao0 x0.args.length cp0))), .lit (.int .u8 (wh : Int)), .lit (.int .i64 (mayS x0 wh)), .lit (.agg (richA x0.kind x0.dep (.slice ao0 x0.args.length cp0))), .lit (.int .u8 (wh : Int)), .lit (.int .i64 (mayS x0 wh)), .lit (.bool true), .lit (.bool true), .lit (.agg (richA x0.kind x0.dep (.slice ao0 x0.args.length cp0))), .lit (.int .i64 (count x0 : Int)), .lit (.agg (richA x0.kind x0.dep (.slice ao0 x0.args.length cp0))), .lit (.int .i64 (count x0 : Int)), .lit (.bool true), .lit (.bool true), .lit (.bool true), .lit (.agg (richA x0.kind x0.dep (.slice ao0 x0.args.length cp0))), .lit (.int .i64 (deep x0 : Int)), .lit (.agg (richA x0.kind x0.dep (.slice ao0 x0.args.length cp0))), .lit (.int .i64 (deep x0 : Int)), .lit (.bool true), .lit (.bool true), .lit (.bool true), .lit (.agg (richA x0.kind x0.dep (.slice ao0 x0.args.length cp0))), .deps (atomsS x0), .lit (.agg (richA x0.kind x0.dep (.slice ao0 x0.args.length cp0))), .deps (atomsS x0), .lit (.bool true), .lit (.bool true), .lit (.bool true), .lit (.agg (richA x0.kind x0.dep (.slice ao0 x0.args.length cp0))), .lit (.agg (richA x1.kind x1.dep (.slice ao1 x1.args.length cp1))), .lit (.bool (sameX x0 x1)), .lit (.agg (richA x0.kind x0.dep (.slice ao0 x0.args.length cp0))), .lit (.agg (richA x1.kind x1.dep (.slice ao1 x1.args.length cp1))), .lit (.bool (sameX x0 x1)), .lit (.bool true), .lit (.bool true), .lit (.bool true), .lit (.agg (richA x0.kind x0.dep (.slice ao0 x0.args.length cp0))), .rich (x0), .lit (.agg (richA x0.kind x0.dep (.slice ao0 x0.args.length cp0))), .lit (.bool true), .lit (.bool true), .lit (.bool true), .lit (.agg (richA x0.kind x0.dep (.slice aw x0.args.length cw))), .lit (.agg (richA x0.kind x0.dep (.slice ao0 x0.args.length cp0))), .lit (.bool true), .lit (.bool true), .lit (.bool true)]
set_option maxRecDepth 100000 in
set_option maxHeartbeats 8000000 in
theorem shapetells_core (w : World) (hTB : TabW9 w) (hMB : MayP9 w) (x0 x1 : R) (ao0 ao1 : Option Addr) (cp0 cp1 : Nat) (hr0 : RichS w x0 (.agg (richA x0.kind x0.dep (.slice ao0 x0.args.length cp0)))) (hr1 : RichS w x1 (.agg (richA x1.kind x1.dep (.slice ao1 x1.args.length cp1)))) (hf0 : fitsX x0) (wh : Nat) :
    Calls Tryd.prog 4 #[.agg (richA x0.kind x0.dep (.slice ao0 x0.args.length cp0)), .agg (richA x1.kind x1.dep (.slice ao1 x1.args.length cp1)), .int .u8 (wh : Int)] w fun e w' => e = .returned (.bool true) ∧ Kept (fun _ => False) w w' := by
  have HTW := Lib.hid hTB
  have HMW := Lib.hid hMB
  have HRW0 := Lib.hid hr0
  have HRW1 := Lib.hid hr1
  have HF0 := Lib.hid hf0
  have HB0 := Lib.hid (show Box ((w.alloc (.cells (richA x0.kind x0.dep (.slice ao0 x0.args.length cp0)) 29)).alloc (.cells (richA x1.kind x1.dep (.slice ao1 x1.args.length cp1)) 29)) w.heap.size 29 (richA x0.kind x0.dep (.slice ao0 x0.args.length cp0)) from (Box.made w _ _).after_alloc _)
  have HB1 := Lib.hid (show Box ((w.alloc (.cells (richA x0.kind x0.dep (.slice ao0 x0.args.length cp0)) 29)).alloc (.cells (richA x1.kind x1.dep (.slice ao1 x1.args.length cp1)) 29)) (w.heap.size + 1) 29 (richA x1.kind x1.dep (.slice ao1 x1.args.length cp1)) from by have h := Box.made (w.alloc (.cells (richA x0.kind x0.dep (.slice ao0 x0.args.length cp0)) 29)) 29 (richA x1.kind x1.dep (.slice ao1 x1.args.length cp1)); rw [World.size_alloc] at h; exact h)
  have HK := Lib.hid (((Kept.refl (fun _ => False) w).alloc (.cells (richA x0.kind x0.dep (.slice ao0 x0.args.length cp0)) 29)).alloc (.cells (richA x1.kind x1.dep (.slice ao1 x1.args.length cp1)) 29))
  have b0 := HB0.out.cell 0
  have e0 := HB1.out.cell 0
  have b1 := HB0.out.cell 1
  have e1 := HB1.out.cell 1
  have b2 := HB0.out.cell 2
  have e2 := HB1.out.cell 2
  have b3 := HB0.out.cell 3
  have e3 := HB1.out.cell 3
  have b4 := HB0.out.cell 4
  have e4 := HB1.out.cell 4
  have b5 := HB0.out.cell 5
  have e5 := HB1.out.cell 5
  have b6 := HB0.out.cell 6
  have e6 := HB1.out.cell 6
  clear hTB hMB hr0 hr1 hf0
  go_enter Tryd.func4, Tryd.ntmps4
  go_wp2_with fail
  refine (large9_walk x0 _ _ (RichS.kept HK.out _ _ HRW0.out)).mono ?_
  rintro e w1 ⟨⟨b, rfl, hb⟩, hk1⟩
  have HB0 := Lib.hid (hk1.box HB0.out (fun h => h)); have HB1 := Lib.hid (hk1.box HB1.out (fun h => h)); have HK := Lib.hid (HK.out.trans hk1 (fun _ _ h => h)); clear hk1
  clear b0 e0 b1 e1 b2 e2 b3 e3 b4 e4 b5 e5 b6 e6
  have b0 := HB0.out.cell 0
  have e0 := HB1.out.cell 0
  have b1 := HB0.out.cell 1
  have e1 := HB1.out.cell 1
  have b2 := HB0.out.cell 2
  have e2 := HB1.out.cell 2
  have b3 := HB0.out.cell 3
  have e3 := HB1.out.cell 3
  have b4 := HB0.out.cell 4
  have e4 := HB1.out.cell 4
  have b5 := HB0.out.cell 5
  have e5 := HB1.out.cell 5
  have b6 := HB0.out.cell 6
  have e6 := HB1.out.cell 6
  cases b with
  | true =>
    go_wp2_with fail
    go_ret
    exact ⟨rfl, HK.out⟩
  | false =>
  have HC0 := Lib.hid (hb rfl)
  clear hb
  go_wp2_with fail
  refine (large9_walk x1 _ _ (RichS.kept HK.out _ _ HRW1.out)).mono ?_
  rintro e w2 ⟨⟨b, rfl, hb⟩, hk2⟩
  have HB0 := Lib.hid (hk2.box HB0.out (fun h => h)); have HB1 := Lib.hid (hk2.box HB1.out (fun h => h)); have HK := Lib.hid (HK.out.trans hk2 (fun _ _ h => h)); clear hk2
  clear b0 e0 b1 e1 b2 e2 b3 e3 b4 e4 b5 e5 b6 e6
  have b0 := HB0.out.cell 0
  have e0 := HB1.out.cell 0
  have b1 := HB0.out.cell 1
  have e1 := HB1.out.cell 1
  have b2 := HB0.out.cell 2
  have e2 := HB1.out.cell 2
  have b3 := HB0.out.cell 3
  have e3 := HB1.out.cell 3
  have b4 := HB0.out.cell 4
  have e4 := HB1.out.cell 4
  have b5 := HB0.out.cell 5
  have e5 := HB1.out.cell 5
  have b6 := HB0.out.cell 6
  have e6 := HB1.out.cell 6
  cases b with
  | true =>
    go_wp2_with fail
    go_ret
    exact ⟨rfl, HK.out⟩
  | false =>
  have HC1 := Lib.hid (hb rfl)
  clear hb
  go_wp2_with fail
  refine (copyR9_walk x0 _ _ (RichS.kept HK.out _ _ HRW0.out) (by have := HC0.out; omega)).mono ?_
  rintro e w3 ⟨⟨vw, rfl, hvw, _⟩, hk3⟩
  obtain ⟨aw, cw, rfl⟩ := rich_formX hvw.here
  have HRW2 := Lib.hid hvw.here
  clear hvw
  have HB0 := Lib.hid (hk3.box HB0.out (fun h => h)); have HB1 := Lib.hid (hk3.box HB1.out (fun h => h)); have HK := Lib.hid (HK.out.trans hk3 (fun _ _ h => h)); clear hk3
  clear b0 e0 b1 e1 b2 e2 b3 e3 b4 e4 b5 e5 b6 e6
  have b0 := HB0.out.cell 0
  have e0 := HB1.out.cell 0
  have b1 := HB0.out.cell 1
  have e1 := HB1.out.cell 1
  have b2 := HB0.out.cell 2
  have e2 := HB1.out.cell 2
  have b3 := HB0.out.cell 3
  have e3 := HB1.out.cell 3
  have b4 := HB0.out.cell 4
  have e4 := HB1.out.cell 4
  have b5 := HB0.out.cell 5
  have e5 := HB1.out.cell 5
  have b6 := HB0.out.cell 6
  have e6 := HB1.out.cell 6
  go_wp2_with fail
  have HBW := Lib.hid (Box.made w3 29 (richA x0.kind x0.dep (.slice aw x0.args.length cw)))
  have HB0 := Lib.hid (HB0.out.after_alloc (.cells (richA x0.kind x0.dep (.slice aw x0.args.length cw)) 29))
  have HB1 := Lib.hid (HB1.out.after_alloc (.cells (richA x0.kind x0.dep (.slice aw x0.args.length cw)) 29))
  have HRW := Lib.hid (RichS.kept ((Kept.refl (fun _ => False) w3).alloc (.cells (richA x0.kind x0.dep (.slice aw x0.args.length cw)) 29)) _ _ HRW2.out)
  have HK := Lib.hid (HK.out.alloc (.cells (richA x0.kind x0.dep (.slice aw x0.args.length cw)) 29))
  have HR0 := Lib.hid (RichS.kept HK.out _ _ HRW0.out)
  have HR1 := Lib.hid (RichS.kept HK.out _ _ HRW1.out)
  have HTB := Lib.hid (HTW.out.kept HK.out)
  have HMB := Lib.hid (HMW.out.on HK.out)
  clear b0 e0 b1 e1 b2 e2 b3 e3 b4 e4 b5 e5 b6 e6
  clear HRW0 HRW1 HRW2 HTW HMW
  generalize w3.alloc (.cells (richA x0.kind x0.dep (.slice aw x0.args.length cw)) 29) = w4 at *
  generalize w3.heap.size = gw at *
  refine wp_region_inv (ST (tblT x0 x1 ao0 cp0 ao1 cp1 aw cw wh)) (fun w1 w2 => Kept (fun _ => False) w1 w2) (fun _ w' => Kept (fun _ => False) w4 w') (by kernel_rfl) (by kernel_rfl) (Kept.refl (fun _ => False) w4).drew (fun j w1 w2 v h hs => ST.kept (tblT x0 x1 ao0 cp0 ao1 cp1 aw cw wh) j w1 w2 v h hs) ⟨OpOK.plain rfl ?_, OpOK.plain rfl ?_, OpOK.plain rfl ?_, OpOK.plain rfl ?_, OpOK.plain rfl ?_, OpOK.plain rfl ?_, OpOK.plain rfl ?_, OpOK.plain rfl ?_, OpOK.yes (g := 7) (d := 23) (b := true) rfl (by kernel_rfl) (by kernel_rfl) (fun _ _ h => ST.lit (tbl := (tblT x0 x1 ao0 cp0 ao1 cp1 aw cw wh)) rfl h) ?_, OpOK.yes (g := 7) (d := 23) (b := true) rfl (by kernel_rfl) (by kernel_rfl) (fun _ _ h => ST.lit (tbl := (tblT x0 x1 ao0 cp0 ao1 cp1 aw cw wh)) rfl h) ?_, OpOK.yes (g := 7) (d := 23) (b := true) rfl (by kernel_rfl) (by kernel_rfl) (fun _ _ h => ST.lit (tbl := (tblT x0 x1 ao0 cp0 ao1 cp1 aw cw wh)) rfl h) ?_, OpOK.yes (g := 7) (d := 23) (b := true) rfl (by kernel_rfl) (by kernel_rfl) (fun _ _ h => ST.lit (tbl := (tblT x0 x1 ao0 cp0 ao1 cp1 aw cw wh)) rfl h) ?_, OpOK.yes (g := 7) (d := 23) (b := true) rfl (by kernel_rfl) (by kernel_rfl) (fun _ _ h => ST.lit (tbl := (tblT x0 x1 ao0 cp0 ao1 cp1 aw cw wh)) rfl h) ?_, OpOK.plain rfl ?_, OpOK.plain rfl ?_, OpOK.yes (g := 14) (d := 30) (b := true) rfl (by kernel_rfl) (by kernel_rfl) (fun _ _ h => ST.lit (tbl := (tblT x0 x1 ao0 cp0 ao1 cp1 aw cw wh)) rfl h) ?_, OpOK.yes (g := 14) (d := 30) (b := true) rfl (by kernel_rfl) (by kernel_rfl) (fun _ _ h => ST.lit (tbl := (tblT x0 x1 ao0 cp0 ao1 cp1 aw cw wh)) rfl h) ?_, OpOK.yes (g := 14) (d := 30) (b := true) rfl (by kernel_rfl) (by kernel_rfl) (fun _ _ h => ST.lit (tbl := (tblT x0 x1 ao0 cp0 ao1 cp1 aw cw wh)) rfl h) ?_, OpOK.yes (g := 14) (d := 30) (b := true) rfl (by kernel_rfl) (by kernel_rfl) (fun _ _ h => ST.lit (tbl := (tblT x0 x1 ao0 cp0 ao1 cp1 aw cw wh)) rfl h) ?_, OpOK.yes (g := 14) (d := 30) (b := true) rfl (by kernel_rfl) (by kernel_rfl) (fun _ _ h => ST.lit (tbl := (tblT x0 x1 ao0 cp0 ao1 cp1 aw cw wh)) rfl h) ?_, OpOK.plain rfl ?_, OpOK.plain rfl ?_, OpOK.yes (g := 21) (d := 37) (b := true) rfl (by kernel_rfl) (by kernel_rfl) (fun _ _ h => ST.lit (tbl := (tblT x0 x1 ao0 cp0 ao1 cp1 aw cw wh)) rfl h) ?_, OpOK.yes (g := 21) (d := 37) (b := true) rfl (by kernel_rfl) (by kernel_rfl) (fun _ _ h => ST.lit (tbl := (tblT x0 x1 ao0 cp0 ao1 cp1 aw cw wh)) rfl h) ?_, OpOK.yes (g := 21) (d := 37) (b := true) rfl (by kernel_rfl) (by kernel_rfl) (fun _ _ h => ST.lit (tbl := (tblT x0 x1 ao0 cp0 ao1 cp1 aw cw wh)) rfl h) ?_, OpOK.yes (g := 21) (d := 37) (b := true) rfl (by kernel_rfl) (by kernel_rfl) (fun _ _ h => ST.lit (tbl := (tblT x0 x1 ao0 cp0 ao1 cp1 aw cw wh)) rfl h) ?_, OpOK.yes (g := 21) (d := 37) (b := true) rfl (by kernel_rfl) (by kernel_rfl) (fun _ _ h => ST.lit (tbl := (tblT x0 x1 ao0 cp0 ao1 cp1 aw cw wh)) rfl h) ?_, OpOK.plain rfl ?_, OpOK.plain rfl ?_, OpOK.yes (g := 28) (d := 44) (b := true) rfl (by kernel_rfl) (by kernel_rfl) (fun _ _ h => ST.lit (tbl := (tblT x0 x1 ao0 cp0 ao1 cp1 aw cw wh)) rfl h) ?_, OpOK.yes (g := 28) (d := 44) (b := true) rfl (by kernel_rfl) (by kernel_rfl) (fun _ _ h => ST.lit (tbl := (tblT x0 x1 ao0 cp0 ao1 cp1 aw cw wh)) rfl h) ?_, OpOK.yes (g := 28) (d := 44) (b := true) rfl (by kernel_rfl) (by kernel_rfl) (fun _ _ h => ST.lit (tbl := (tblT x0 x1 ao0 cp0 ao1 cp1 aw cw wh)) rfl h) ?_, OpOK.yes (g := 28) (d := 44) (b := true) rfl (by kernel_rfl) (by kernel_rfl) (fun _ _ h => ST.lit (tbl := (tblT x0 x1 ao0 cp0 ao1 cp1 aw cw wh)) rfl h) ?_, OpOK.yes (g := 28) (d := 44) (b := true) rfl (by kernel_rfl) (by kernel_rfl) (fun _ _ h => ST.lit (tbl := (tblT x0 x1 ao0 cp0 ao1 cp1 aw cw wh)) rfl h) ?_, OpOK.yes (g := 28) (d := 44) (b := true) rfl (by kernel_rfl) (by kernel_rfl) (fun _ _ h => ST.lit (tbl := (tblT x0 x1 ao0 cp0 ao1 cp1 aw cw wh)) rfl h) ?_, OpOK.yes (g := 28) (d := 44) (b := true) rfl (by kernel_rfl) (by kernel_rfl) (fun _ _ h => ST.lit (tbl := (tblT x0 x1 ao0 cp0 ao1 cp1 aw cw wh)) rfl h) ?_, OpOK.plain rfl ?_, OpOK.plain rfl ?_, OpOK.yes (g := 37) (d := 53) (b := true) rfl (by kernel_rfl) (by kernel_rfl) (fun _ _ h => ST.lit (tbl := (tblT x0 x1 ao0 cp0 ao1 cp1 aw cw wh)) rfl h) ?_, OpOK.yes (g := 37) (d := 53) (b := true) rfl (by kernel_rfl) (by kernel_rfl) (fun _ _ h => ST.lit (tbl := (tblT x0 x1 ao0 cp0 ao1 cp1 aw cw wh)) rfl h) ?_, OpOK.yes (g := 37) (d := 53) (b := true) rfl (by kernel_rfl) (by kernel_rfl) (fun _ _ h => ST.lit (tbl := (tblT x0 x1 ao0 cp0 ao1 cp1 aw cw wh)) rfl h) ?_, OpOK.yes (g := 37) (d := 53) (b := true) rfl (by kernel_rfl) (by kernel_rfl) (fun _ _ h => ST.lit (tbl := (tblT x0 x1 ao0 cp0 ao1 cp1 aw cw wh)) rfl h) ?_, OpOK.plain rfl ?_, OpOK.plain rfl ?_, OpOK.yes (g := 43) (d := 59) (b := true) rfl (by kernel_rfl) (by kernel_rfl) (fun _ _ h => ST.lit (tbl := (tblT x0 x1 ao0 cp0 ao1 cp1 aw cw wh)) rfl h) ?_, OpOK.yes (g := 43) (d := 59) (b := true) rfl (by kernel_rfl) (by kernel_rfl) (fun _ _ h => ST.lit (tbl := (tblT x0 x1 ao0 cp0 ao1 cp1 aw cw wh)) rfl h) ?_, OpOK.yes (g := 43) (d := 59) (b := true) rfl (by kernel_rfl) (by kernel_rfl) (fun _ _ h => ST.lit (tbl := (tblT x0 x1 ao0 cp0 ao1 cp1 aw cw wh)) rfl h) ?_, OpOK.plain rfl ?_, OpOK.plain rfl ?_, trivial⟩ ?_
  · intro ls a wz hC hz hnew hwait hs hd K hK
    have hbx := hC.box HB0.out (fun h => h)
    have c0 := hbx.cell 0
    have c1 := hbx.cell 1
    have c2 := hbx.cell 2
    have c3 := hbx.cell 3
    have c4 := hbx.cell 4
    have c5 := hbx.cell 5
    have c6 := hbx.cell 6
    have t3 := hs 3 _ (by kernel_rfl) rfl
    have t3' := t3
    rw [Array.getD_eq_getD_getElem?] at t3'
    clear hs hd hbx
    go_simp
    exact hK _ _ (Kept.refl (fun _ => False) wz) hC (fun _ => ST.mkLit rfl)
  · intro ls a wz hC hz hnew hwait hs hd K hK
    have t2 := hs 2 _ (by kernel_rfl) rfl
    have t2' := t2
    rw [Array.getD_eq_getD_getElem?] at t2'
    clear hs hd
    go_simp
    exact hK _ _ (Kept.refl (fun _ => False) wz) hC (fun _ => ST.mkLit rfl)
  · intro ls a wz hC hz hnew hwait hs hd K hK
    have d0 : a.tmps.getD 16 undef = .agg (richA x0.kind x0.dep (.slice ao0 x0.args.length cp0)) := by
      obtain ⟨u, hu, hv⟩ := hd 0 16 (by kernel_rfl) (by kernel_rfl)
      rw [hu]; exact ST.lit (tbl := (tblT x0 x1 ao0 cp0 ao1 cp1 aw cw wh)) rfl hv
    have d0' : a.tmps[16]?.getD undef = .agg (richA x0.kind x0.dep (.slice ao0 x0.args.length cp0)) := by rw [← Array.getD_eq_getD_getElem?]; exact d0
    have d1 : a.tmps.getD 17 undef = .int .u8 (wh : Int) := by
      obtain ⟨u, hu, hv⟩ := hd 1 17 (by kernel_rfl) (by kernel_rfl)
      rw [hu]; exact ST.lit (tbl := (tblT x0 x1 ao0 cp0 ao1 cp1 aw cw wh)) rfl hv
    have d1' : a.tmps[17]?.getD undef = .int .u8 (wh : Int) := by rw [← Array.getD_eq_getD_getElem?]; exact d1
    clear hs hd
    go_simp
    refine (may9_walk x0 _ wh wz (RichS.kept hC _ _ HR0.out) (by have := HC0.out; omega) (HTB.out.kept hC) (HMB.out.on hC)).mono ?_
    rintro e wv ⟨rfl, hkv⟩
    exact hK _ _ hkv (hC.trans hkv (fun _ _ h => h)) (fun _ => ST.mkLit rfl)
  · intro ls a wz hC hz hnew hwait hs hd K hK
    have hbx := hC.box HB0.out (fun h => h)
    have c0 := hbx.cell 0
    have c1 := hbx.cell 1
    have c2 := hbx.cell 2
    have c3 := hbx.cell 3
    have c4 := hbx.cell 4
    have c5 := hbx.cell 5
    have c6 := hbx.cell 6
    have t3 := hs 3 _ (by kernel_rfl) rfl
    have t3' := t3
    rw [Array.getD_eq_getD_getElem?] at t3'
    clear hs hd hbx
    go_simp
    exact hK _ _ (Kept.refl (fun _ => False) wz) hC (fun _ => ST.mkLit rfl)
  · intro ls a wz hC hz hnew hwait hs hd K hK
    have t2 := hs 2 _ (by kernel_rfl) rfl
    have t2' := t2
    rw [Array.getD_eq_getD_getElem?] at t2'
    clear hs hd
    go_simp
    exact hK _ _ (Kept.refl (fun _ => False) wz) hC (fun _ => ST.mkLit rfl)
  · intro ls a wz hC hz hnew hwait hs hd K hK
    have d3 : a.tmps.getD 19 undef = .agg (richA x0.kind x0.dep (.slice ao0 x0.args.length cp0)) := by
      obtain ⟨u, hu, hv⟩ := hd 3 19 (by kernel_rfl) (by kernel_rfl)
      rw [hu]; exact ST.lit (tbl := (tblT x0 x1 ao0 cp0 ao1 cp1 aw cw wh)) rfl hv
    have d3' : a.tmps[19]?.getD undef = .agg (richA x0.kind x0.dep (.slice ao0 x0.args.length cp0)) := by rw [← Array.getD_eq_getD_getElem?]; exact d3
    have d4 : a.tmps.getD 20 undef = .int .u8 (wh : Int) := by
      obtain ⟨u, hu, hv⟩ := hd 4 20 (by kernel_rfl) (by kernel_rfl)
      rw [hu]; exact ST.lit (tbl := (tblT x0 x1 ao0 cp0 ao1 cp1 aw cw wh)) rfl hv
    have d4' : a.tmps[20]?.getD undef = .int .u8 (wh : Int) := by rw [← Array.getD_eq_getD_getElem?]; exact d4
    clear hs hd
    go_simp
    refine (mayR9_walk x0 _ wh wz (RichS.kept hC _ _ HR0.out) HF0.out (by have := HC0.out; omega)).mono ?_
    rintro e wv ⟨rfl, hkv⟩
    exact hK _ _ hkv (hC.trans hkv (fun _ _ h => h)) (fun _ => ST.mkLit rfl)
  · intro ls a wz hC hz hnew hwait hs hd K hK
    have d2 : a.tmps.getD 18 undef = .int .i64 (mayS x0 wh) := by
      obtain ⟨u, hu, hv⟩ := hd 2 18 (by kernel_rfl) (by kernel_rfl)
      rw [hu]; exact ST.lit (tbl := (tblT x0 x1 ao0 cp0 ao1 cp1 aw cw wh)) rfl hv
    have d2' : a.tmps[18]?.getD undef = .int .i64 (mayS x0 wh) := by rw [← Array.getD_eq_getD_getElem?]; exact d2
    have d5 : a.tmps.getD 21 undef = .int .i64 (mayS x0 wh) := by
      obtain ⟨u, hu, hv⟩ := hd 5 21 (by kernel_rfl) (by kernel_rfl)
      rw [hu]; exact ST.lit (tbl := (tblT x0 x1 ao0 cp0 ao1 cp1 aw cw wh)) rfl hv
    have d5' : a.tmps[21]?.getD undef = .int .i64 (mayS x0 wh) := by rw [← Array.getD_eq_getD_getElem?]; exact d5
    clear hs hd
    go_simp
    exact hK _ _ (Kept.refl (fun _ => False) wz) hC (fun _ => ST.mkLit rfl)
  · intro ls a wz hC hz hnew hwait hs hd K hK
    have d6 : a.tmps.getD 22 undef = .bool true := by
      obtain ⟨u, hu, hv⟩ := hd 6 22 (by kernel_rfl) (by kernel_rfl)
      rw [hu]; exact ST.lit (tbl := (tblT x0 x1 ao0 cp0 ao1 cp1 aw cw wh)) rfl hv
    have d6' : a.tmps[22]?.getD undef = .bool true := by rw [← Array.getD_eq_getD_getElem?]; exact d6
    clear hs hd
    go_simp
    exact hK _ _ (Kept.refl (fun _ => False) wz) hC (fun _ => ST.mkLit rfl)
  · intro ls a wz hC hz hnew hwait hs hd K hK
    have hbx := hC.box HB0.out (fun h => h)
    have c0 := hbx.cell 0
    have c1 := hbx.cell 1
    have c2 := hbx.cell 2
    have c3 := hbx.cell 3
    have c4 := hbx.cell 4
    have c5 := hbx.cell 5
    have c6 := hbx.cell 6
    have t3 := hs 3 _ (by kernel_rfl) rfl
    have t3' := t3
    rw [Array.getD_eq_getD_getElem?] at t3'
    clear hs hd hbx
    go_simp
    exact hK _ _ (Kept.refl (fun _ => False) wz) hC (fun _ => ST.mkLit rfl)
  · intro ls a wz hC hz hnew hwait hs hd K hK
    have d8 : a.tmps.getD 24 undef = .agg (richA x0.kind x0.dep (.slice ao0 x0.args.length cp0)) := by
      obtain ⟨u, hu, hv⟩ := hd 8 24 (by kernel_rfl) (by kernel_rfl)
      rw [hu]; exact ST.lit (tbl := (tblT x0 x1 ao0 cp0 ao1 cp1 aw cw wh)) rfl hv
    have d8' : a.tmps[24]?.getD undef = .agg (richA x0.kind x0.dep (.slice ao0 x0.args.length cp0)) := by rw [← Array.getD_eq_getD_getElem?]; exact d8
    clear hs hd
    go_simp
    refine (count9_walk x0 _ wz (RichS.kept hC _ _ HR0.out) (by have := HC0.out; omega)).mono ?_
    rintro e wv ⟨rfl, hkv⟩
    exact hK _ _ hkv (hC.trans hkv (fun _ _ h => h)) (fun _ => ST.mkLit rfl)
  · intro ls a wz hC hz hnew hwait hs hd K hK
    have hbx := hC.box HB0.out (fun h => h)
    have c0 := hbx.cell 0
    have c1 := hbx.cell 1
    have c2 := hbx.cell 2
    have c3 := hbx.cell 3
    have c4 := hbx.cell 4
    have c5 := hbx.cell 5
    have c6 := hbx.cell 6
    have t3 := hs 3 _ (by kernel_rfl) rfl
    have t3' := t3
    rw [Array.getD_eq_getD_getElem?] at t3'
    clear hs hd hbx
    go_simp
    exact hK _ _ (Kept.refl (fun _ => False) wz) hC (fun _ => ST.mkLit rfl)
  · intro ls a wz hC hz hnew hwait hs hd K hK
    have d10 : a.tmps.getD 26 undef = .agg (richA x0.kind x0.dep (.slice ao0 x0.args.length cp0)) := by
      obtain ⟨u, hu, hv⟩ := hd 10 26 (by kernel_rfl) (by kernel_rfl)
      rw [hu]; exact ST.lit (tbl := (tblT x0 x1 ao0 cp0 ao1 cp1 aw cw wh)) rfl hv
    have d10' : a.tmps[26]?.getD undef = .agg (richA x0.kind x0.dep (.slice ao0 x0.args.length cp0)) := by rw [← Array.getD_eq_getD_getElem?]; exact d10
    clear hs hd
    go_simp
    refine (countR9_walk x0 _ wz (RichS.kept hC _ _ HR0.out) (by have := HC0.out; omega)).mono ?_
    rintro e wv ⟨rfl, hkv⟩
    exact hK _ _ hkv (hC.trans hkv (fun _ _ h => h)) (fun _ => ST.mkLit rfl)
  · intro ls a wz hC hz hnew hwait hs hd K hK
    have d9 : a.tmps.getD 25 undef = .int .i64 (count x0 : Int) := by
      obtain ⟨u, hu, hv⟩ := hd 9 25 (by kernel_rfl) (by kernel_rfl)
      rw [hu]; exact ST.lit (tbl := (tblT x0 x1 ao0 cp0 ao1 cp1 aw cw wh)) rfl hv
    have d9' : a.tmps[25]?.getD undef = .int .i64 (count x0 : Int) := by rw [← Array.getD_eq_getD_getElem?]; exact d9
    have d11 : a.tmps.getD 27 undef = .int .i64 (count x0 : Int) := by
      obtain ⟨u, hu, hv⟩ := hd 11 27 (by kernel_rfl) (by kernel_rfl)
      rw [hu]; exact ST.lit (tbl := (tblT x0 x1 ao0 cp0 ao1 cp1 aw cw wh)) rfl hv
    have d11' : a.tmps[27]?.getD undef = .int .i64 (count x0 : Int) := by rw [← Array.getD_eq_getD_getElem?]; exact d11
    clear hs hd
    go_simp
    exact hK _ _ (Kept.refl (fun _ => False) wz) hC (fun _ => ST.mkLit rfl)
  · intro ls a wz hC hz hnew hwait hs hd K hK
    have d7 : a.tmps.getD 23 undef = .bool true := by
      obtain ⟨u, hu, hv⟩ := hd 7 23 (by kernel_rfl) (by kernel_rfl)
      rw [hu]; exact ST.lit (tbl := (tblT x0 x1 ao0 cp0 ao1 cp1 aw cw wh)) rfl hv
    have d7' : a.tmps[23]?.getD undef = .bool true := by rw [← Array.getD_eq_getD_getElem?]; exact d7
    have d12 : a.tmps.getD 28 undef = .bool true := by
      obtain ⟨u, hu, hv⟩ := hd 12 28 (by kernel_rfl) (by kernel_rfl)
      rw [hu]; exact ST.lit (tbl := (tblT x0 x1 ao0 cp0 ao1 cp1 aw cw wh)) rfl hv
    have d12' : a.tmps[28]?.getD undef = .bool true := by rw [← Array.getD_eq_getD_getElem?]; exact d12
    clear hs hd
    go_simp
    exact hK _ _ (Kept.refl (fun _ => False) wz) hC (fun _ => ST.mkLit rfl)
  · intro ls a wz hC hz hnew hwait hs hd K hK
    have d13 : a.tmps.getD 29 undef = .bool true := by
      obtain ⟨u, hu, hv⟩ := hd 13 29 (by kernel_rfl) (by kernel_rfl)
      rw [hu]; exact ST.lit (tbl := (tblT x0 x1 ao0 cp0 ao1 cp1 aw cw wh)) rfl hv
    have d13' : a.tmps[29]?.getD undef = .bool true := by rw [← Array.getD_eq_getD_getElem?]; exact d13
    clear hs hd
    go_simp
    exact hK _ _ (Kept.refl (fun _ => False) wz) hC (fun _ => ST.mkLit rfl)
  · intro ls a wz hC hz hnew hwait hs hd K hK
    have hbx := hC.box HB0.out (fun h => h)
    have c0 := hbx.cell 0
    have c1 := hbx.cell 1
    have c2 := hbx.cell 2
    have c3 := hbx.cell 3
    have c4 := hbx.cell 4
    have c5 := hbx.cell 5
    have c6 := hbx.cell 6
    have t3 := hs 3 _ (by kernel_rfl) rfl
    have t3' := t3
    rw [Array.getD_eq_getD_getElem?] at t3'
    clear hs hd hbx
    go_simp
    exact hK _ _ (Kept.refl (fun _ => False) wz) hC (fun _ => ST.mkLit rfl)
  · intro ls a wz hC hz hnew hwait hs hd K hK
    have d15 : a.tmps.getD 31 undef = .agg (richA x0.kind x0.dep (.slice ao0 x0.args.length cp0)) := by
      obtain ⟨u, hu, hv⟩ := hd 15 31 (by kernel_rfl) (by kernel_rfl)
      rw [hu]; exact ST.lit (tbl := (tblT x0 x1 ao0 cp0 ao1 cp1 aw cw wh)) rfl hv
    have d15' : a.tmps[31]?.getD undef = .agg (richA x0.kind x0.dep (.slice ao0 x0.args.length cp0)) := by rw [← Array.getD_eq_getD_getElem?]; exact d15
    clear hs hd
    go_simp
    refine (depth9_walk x0 _ wz (RichS.kept hC _ _ HR0.out) (by have := HC0.out; omega)).mono ?_
    rintro e wv ⟨rfl, hkv⟩
    exact hK _ _ hkv (hC.trans hkv (fun _ _ h => h)) (fun _ => ST.mkLit rfl)
  · intro ls a wz hC hz hnew hwait hs hd K hK
    have hbx := hC.box HB0.out (fun h => h)
    have c0 := hbx.cell 0
    have c1 := hbx.cell 1
    have c2 := hbx.cell 2
    have c3 := hbx.cell 3
    have c4 := hbx.cell 4
    have c5 := hbx.cell 5
    have c6 := hbx.cell 6
    have t3 := hs 3 _ (by kernel_rfl) rfl
    have t3' := t3
    rw [Array.getD_eq_getD_getElem?] at t3'
    clear hs hd hbx
    go_simp
    exact hK _ _ (Kept.refl (fun _ => False) wz) hC (fun _ => ST.mkLit rfl)
  · intro ls a wz hC hz hnew hwait hs hd K hK
    have d17 : a.tmps.getD 33 undef = .agg (richA x0.kind x0.dep (.slice ao0 x0.args.length cp0)) := by
      obtain ⟨u, hu, hv⟩ := hd 17 33 (by kernel_rfl) (by kernel_rfl)
      rw [hu]; exact ST.lit (tbl := (tblT x0 x1 ao0 cp0 ao1 cp1 aw cw wh)) rfl hv
    have d17' : a.tmps[33]?.getD undef = .agg (richA x0.kind x0.dep (.slice ao0 x0.args.length cp0)) := by rw [← Array.getD_eq_getD_getElem?]; exact d17
    clear hs hd
    go_simp
    refine (depthR9_walk x0 _ wz (RichS.kept hC _ _ HR0.out) (by have := HC0.out; omega)).mono ?_
    rintro e wv ⟨rfl, hkv⟩
    exact hK _ _ hkv (hC.trans hkv (fun _ _ h => h)) (fun _ => ST.mkLit rfl)
  · intro ls a wz hC hz hnew hwait hs hd K hK
    have d16 : a.tmps.getD 32 undef = .int .i64 (deep x0 : Int) := by
      obtain ⟨u, hu, hv⟩ := hd 16 32 (by kernel_rfl) (by kernel_rfl)
      rw [hu]; exact ST.lit (tbl := (tblT x0 x1 ao0 cp0 ao1 cp1 aw cw wh)) rfl hv
    have d16' : a.tmps[32]?.getD undef = .int .i64 (deep x0 : Int) := by rw [← Array.getD_eq_getD_getElem?]; exact d16
    have d18 : a.tmps.getD 34 undef = .int .i64 (deep x0 : Int) := by
      obtain ⟨u, hu, hv⟩ := hd 18 34 (by kernel_rfl) (by kernel_rfl)
      rw [hu]; exact ST.lit (tbl := (tblT x0 x1 ao0 cp0 ao1 cp1 aw cw wh)) rfl hv
    have d18' : a.tmps[34]?.getD undef = .int .i64 (deep x0 : Int) := by rw [← Array.getD_eq_getD_getElem?]; exact d18
    clear hs hd
    go_simp
    exact hK _ _ (Kept.refl (fun _ => False) wz) hC (fun _ => ST.mkLit rfl)
  · intro ls a wz hC hz hnew hwait hs hd K hK
    have d14 : a.tmps.getD 30 undef = .bool true := by
      obtain ⟨u, hu, hv⟩ := hd 14 30 (by kernel_rfl) (by kernel_rfl)
      rw [hu]; exact ST.lit (tbl := (tblT x0 x1 ao0 cp0 ao1 cp1 aw cw wh)) rfl hv
    have d14' : a.tmps[30]?.getD undef = .bool true := by rw [← Array.getD_eq_getD_getElem?]; exact d14
    have d19 : a.tmps.getD 35 undef = .bool true := by
      obtain ⟨u, hu, hv⟩ := hd 19 35 (by kernel_rfl) (by kernel_rfl)
      rw [hu]; exact ST.lit (tbl := (tblT x0 x1 ao0 cp0 ao1 cp1 aw cw wh)) rfl hv
    have d19' : a.tmps[35]?.getD undef = .bool true := by rw [← Array.getD_eq_getD_getElem?]; exact d19
    clear hs hd
    go_simp
    exact hK _ _ (Kept.refl (fun _ => False) wz) hC (fun _ => ST.mkLit rfl)
  · intro ls a wz hC hz hnew hwait hs hd K hK
    have d20 : a.tmps.getD 36 undef = .bool true := by
      obtain ⟨u, hu, hv⟩ := hd 20 36 (by kernel_rfl) (by kernel_rfl)
      rw [hu]; exact ST.lit (tbl := (tblT x0 x1 ao0 cp0 ao1 cp1 aw cw wh)) rfl hv
    have d20' : a.tmps[36]?.getD undef = .bool true := by rw [← Array.getD_eq_getD_getElem?]; exact d20
    clear hs hd
    go_simp
    exact hK _ _ (Kept.refl (fun _ => False) wz) hC (fun _ => ST.mkLit rfl)
  · intro ls a wz hC hz hnew hwait hs hd K hK
    have hbx := hC.box HB0.out (fun h => h)
    have c0 := hbx.cell 0
    have c1 := hbx.cell 1
    have c2 := hbx.cell 2
    have c3 := hbx.cell 3
    have c4 := hbx.cell 4
    have c5 := hbx.cell 5
    have c6 := hbx.cell 6
    have t3 := hs 3 _ (by kernel_rfl) rfl
    have t3' := t3
    rw [Array.getD_eq_getD_getElem?] at t3'
    clear hs hd hbx
    go_simp
    exact hK _ _ (Kept.refl (fun _ => False) wz) hC (fun _ => ST.mkLit rfl)
  · intro ls a wz hC hz hnew hwait hs hd K hK
    have d22 : a.tmps.getD 38 undef = .agg (richA x0.kind x0.dep (.slice ao0 x0.args.length cp0)) := by
      obtain ⟨u, hu, hv⟩ := hd 22 38 (by kernel_rfl) (by kernel_rfl)
      rw [hu]; exact ST.lit (tbl := (tblT x0 x1 ao0 cp0 ao1 cp1 aw cw wh)) rfl hv
    have d22' : a.tmps[38]?.getD undef = .agg (richA x0.kind x0.dep (.slice ao0 x0.args.length cp0)) := by rw [← Array.getD_eq_getD_getElem?]; exact d22
    clear hs hd
    go_simp
    refine (atoms9_walk x0 _ wz (RichS.kept hC _ _ HR0.out) (by have := HC0.out; omega) HF0.out).mono ?_
    rintro e wv ⟨⟨v, rfl, ho⟩, hkv⟩
    exact hK _ _ hkv (hC.trans hkv (fun _ _ h => h)) (fun _ => ST.mkSl (l := atomsS x0) rfl (own_deps9 ho))
  · intro ls a wz hC hz hnew hwait hs hd K hK
    have hbx := hC.box HB0.out (fun h => h)
    have c0 := hbx.cell 0
    have c1 := hbx.cell 1
    have c2 := hbx.cell 2
    have c3 := hbx.cell 3
    have c4 := hbx.cell 4
    have c5 := hbx.cell 5
    have c6 := hbx.cell 6
    have t3 := hs 3 _ (by kernel_rfl) rfl
    have t3' := t3
    rw [Array.getD_eq_getD_getElem?] at t3'
    clear hs hd hbx
    go_simp
    exact hK _ _ (Kept.refl (fun _ => False) wz) hC (fun _ => ST.mkLit rfl)
  · intro ls a wz hC hz hnew hwait hs hd K hK
    have d24 : a.tmps.getD 40 undef = .agg (richA x0.kind x0.dep (.slice ao0 x0.args.length cp0)) := by
      obtain ⟨u, hu, hv⟩ := hd 24 40 (by kernel_rfl) (by kernel_rfl)
      rw [hu]; exact ST.lit (tbl := (tblT x0 x1 ao0 cp0 ao1 cp1 aw cw wh)) rfl hv
    have d24' : a.tmps[40]?.getD undef = .agg (richA x0.kind x0.dep (.slice ao0 x0.args.length cp0)) := by rw [← Array.getD_eq_getD_getElem?]; exact d24
    clear hs hd
    go_simp
    refine (atomsR9_walk x0 _ wz (RichS.kept hC _ _ HR0.out) (by have := HC0.out; omega)).mono ?_
    rintro e wv ⟨⟨v, rfl, ho⟩, hkv⟩
    exact hK _ _ hkv (hC.trans hkv (fun _ _ h => h)) (fun _ => ST.mkSl (l := atomsS x0) rfl ho)
  · intro ls a wz hC hz hnew hwait hs hd K hK
    obtain ⟨v23, d23, hv23⟩ := hd 23 39 (by kernel_rfl) (by kernel_rfl)
    have hq23 := ST.sl (tbl := (tblT x0 x1 ao0 cp0 ao1 cp1 aw cw wh)) (l := (atomsS x0)) rfl hv23
    have d23' := d23
    rw [Array.getD_eq_getD_getElem?] at d23'
    clear hv23
    obtain ⟨v25, d25, hv25⟩ := hd 25 41 (by kernel_rfl) (by kernel_rfl)
    have hq25 := ST.sl (tbl := (tblT x0 x1 ao0 cp0 ao1 cp1 aw cw wh)) (l := (atomsS x0)) rfl hv25
    have d25' := d25
    rw [Array.getD_eq_getD_getElem?] at d25'
    clear hv25
    clear hs hd
    go_simp
    have hq := depsR9_walk (atomsS x0) (atomsS x0) _ _ wz (by have h1 := atomsS_len x0; have h2 := HC0.out; omega) hq23 hq25
    rw [sameDs_iff.2 rfl] at hq
    refine hq.mono ?_
    rintro e wv ⟨rfl, hkv⟩
    exact hK _ _ hkv (hC.trans hkv (fun _ _ h => h)) (fun _ => ST.mkLit rfl)
  · intro ls a wz hC hz hnew hwait hs hd K hK
    have d21 : a.tmps.getD 37 undef = .bool true := by
      obtain ⟨u, hu, hv⟩ := hd 21 37 (by kernel_rfl) (by kernel_rfl)
      rw [hu]; exact ST.lit (tbl := (tblT x0 x1 ao0 cp0 ao1 cp1 aw cw wh)) rfl hv
    have d21' : a.tmps[37]?.getD undef = .bool true := by rw [← Array.getD_eq_getD_getElem?]; exact d21
    have d26 : a.tmps.getD 42 undef = .bool true := by
      obtain ⟨u, hu, hv⟩ := hd 26 42 (by kernel_rfl) (by kernel_rfl)
      rw [hu]; exact ST.lit (tbl := (tblT x0 x1 ao0 cp0 ao1 cp1 aw cw wh)) rfl hv
    have d26' : a.tmps[42]?.getD undef = .bool true := by rw [← Array.getD_eq_getD_getElem?]; exact d26
    clear hs hd
    go_simp
    exact hK _ _ (Kept.refl (fun _ => False) wz) hC (fun _ => ST.mkLit rfl)
  · intro ls a wz hC hz hnew hwait hs hd K hK
    have d27 : a.tmps.getD 43 undef = .bool true := by
      obtain ⟨u, hu, hv⟩ := hd 27 43 (by kernel_rfl) (by kernel_rfl)
      rw [hu]; exact ST.lit (tbl := (tblT x0 x1 ao0 cp0 ao1 cp1 aw cw wh)) rfl hv
    have d27' : a.tmps[43]?.getD undef = .bool true := by rw [← Array.getD_eq_getD_getElem?]; exact d27
    clear hs hd
    go_simp
    exact hK _ _ (Kept.refl (fun _ => False) wz) hC (fun _ => ST.mkLit rfl)
  · intro ls a wz hC hz hnew hwait hs hd K hK
    have hbx := hC.box HB0.out (fun h => h)
    have c0 := hbx.cell 0
    have c1 := hbx.cell 1
    have c2 := hbx.cell 2
    have c3 := hbx.cell 3
    have c4 := hbx.cell 4
    have c5 := hbx.cell 5
    have c6 := hbx.cell 6
    have t3 := hs 3 _ (by kernel_rfl) rfl
    have t3' := t3
    rw [Array.getD_eq_getD_getElem?] at t3'
    clear hs hd hbx
    go_simp
    exact hK _ _ (Kept.refl (fun _ => False) wz) hC (fun _ => ST.mkLit rfl)
  · intro ls a wz hC hz hnew hwait hs hd K hK
    have hbx := hC.box HB1.out (fun h => h)
    have c0 := hbx.cell 0
    have c1 := hbx.cell 1
    have c2 := hbx.cell 2
    have c3 := hbx.cell 3
    have c4 := hbx.cell 4
    have c5 := hbx.cell 5
    have c6 := hbx.cell 6
    have t4 := hs 4 _ (by kernel_rfl) rfl
    have t4' := t4
    rw [Array.getD_eq_getD_getElem?] at t4'
    clear hs hd hbx
    go_simp
    exact hK _ _ (Kept.refl (fun _ => False) wz) hC (fun _ => ST.mkLit rfl)
  · intro ls a wz hC hz hnew hwait hs hd K hK
    have d29 : a.tmps.getD 45 undef = .agg (richA x0.kind x0.dep (.slice ao0 x0.args.length cp0)) := by
      obtain ⟨u, hu, hv⟩ := hd 29 45 (by kernel_rfl) (by kernel_rfl)
      rw [hu]; exact ST.lit (tbl := (tblT x0 x1 ao0 cp0 ao1 cp1 aw cw wh)) rfl hv
    have d29' : a.tmps[45]?.getD undef = .agg (richA x0.kind x0.dep (.slice ao0 x0.args.length cp0)) := by rw [← Array.getD_eq_getD_getElem?]; exact d29
    have d30 : a.tmps.getD 46 undef = .agg (richA x1.kind x1.dep (.slice ao1 x1.args.length cp1)) := by
      obtain ⟨u, hu, hv⟩ := hd 30 46 (by kernel_rfl) (by kernel_rfl)
      rw [hu]; exact ST.lit (tbl := (tblT x0 x1 ao0 cp0 ao1 cp1 aw cw wh)) rfl hv
    have d30' : a.tmps[46]?.getD undef = .agg (richA x1.kind x1.dep (.slice ao1 x1.args.length cp1)) := by rw [← Array.getD_eq_getD_getElem?]; exact d30
    clear hs hd
    go_simp
    refine (same9_walk x0 x1 _ _ wz (RichS.kept hC _ _ HR0.out) (RichS.kept hC _ _ HR1.out) HF0.out).mono ?_
    rintro e wv ⟨rfl, hkv⟩
    exact hK _ _ hkv (hC.trans hkv (fun _ _ h => h)) (fun _ => ST.mkLit rfl)
  · intro ls a wz hC hz hnew hwait hs hd K hK
    have hbx := hC.box HB0.out (fun h => h)
    have c0 := hbx.cell 0
    have c1 := hbx.cell 1
    have c2 := hbx.cell 2
    have c3 := hbx.cell 3
    have c4 := hbx.cell 4
    have c5 := hbx.cell 5
    have c6 := hbx.cell 6
    have t3 := hs 3 _ (by kernel_rfl) rfl
    have t3' := t3
    rw [Array.getD_eq_getD_getElem?] at t3'
    clear hs hd hbx
    go_simp
    exact hK _ _ (Kept.refl (fun _ => False) wz) hC (fun _ => ST.mkLit rfl)
  · intro ls a wz hC hz hnew hwait hs hd K hK
    have hbx := hC.box HB1.out (fun h => h)
    have c0 := hbx.cell 0
    have c1 := hbx.cell 1
    have c2 := hbx.cell 2
    have c3 := hbx.cell 3
    have c4 := hbx.cell 4
    have c5 := hbx.cell 5
    have c6 := hbx.cell 6
    have t4 := hs 4 _ (by kernel_rfl) rfl
    have t4' := t4
    rw [Array.getD_eq_getD_getElem?] at t4'
    clear hs hd hbx
    go_simp
    exact hK _ _ (Kept.refl (fun _ => False) wz) hC (fun _ => ST.mkLit rfl)
  · intro ls a wz hC hz hnew hwait hs hd K hK
    have d32 : a.tmps.getD 48 undef = .agg (richA x0.kind x0.dep (.slice ao0 x0.args.length cp0)) := by
      obtain ⟨u, hu, hv⟩ := hd 32 48 (by kernel_rfl) (by kernel_rfl)
      rw [hu]; exact ST.lit (tbl := (tblT x0 x1 ao0 cp0 ao1 cp1 aw cw wh)) rfl hv
    have d32' : a.tmps[48]?.getD undef = .agg (richA x0.kind x0.dep (.slice ao0 x0.args.length cp0)) := by rw [← Array.getD_eq_getD_getElem?]; exact d32
    have d33 : a.tmps.getD 49 undef = .agg (richA x1.kind x1.dep (.slice ao1 x1.args.length cp1)) := by
      obtain ⟨u, hu, hv⟩ := hd 33 49 (by kernel_rfl) (by kernel_rfl)
      rw [hu]; exact ST.lit (tbl := (tblT x0 x1 ao0 cp0 ao1 cp1 aw cw wh)) rfl hv
    have d33' : a.tmps[49]?.getD undef = .agg (richA x1.kind x1.dep (.slice ao1 x1.args.length cp1)) := by rw [← Array.getD_eq_getD_getElem?]; exact d33
    clear hs hd
    go_simp
    refine (sameR9_walk x0 x1 _ _ wz (RichS.kept hC _ _ HR0.out) (RichS.kept hC _ _ HR1.out) HF0.out).mono ?_
    rintro e wv ⟨rfl, hkv⟩
    exact hK _ _ hkv (hC.trans hkv (fun _ _ h => h)) (fun _ => ST.mkLit rfl)
  · intro ls a wz hC hz hnew hwait hs hd K hK
    have d31 : a.tmps.getD 47 undef = .bool (sameX x0 x1) := by
      obtain ⟨u, hu, hv⟩ := hd 31 47 (by kernel_rfl) (by kernel_rfl)
      rw [hu]; exact ST.lit (tbl := (tblT x0 x1 ao0 cp0 ao1 cp1 aw cw wh)) rfl hv
    have d31' : a.tmps[47]?.getD undef = .bool (sameX x0 x1) := by rw [← Array.getD_eq_getD_getElem?]; exact d31
    have d34 : a.tmps.getD 50 undef = .bool (sameX x0 x1) := by
      obtain ⟨u, hu, hv⟩ := hd 34 50 (by kernel_rfl) (by kernel_rfl)
      rw [hu]; exact ST.lit (tbl := (tblT x0 x1 ao0 cp0 ao1 cp1 aw cw wh)) rfl hv
    have d34' : a.tmps[50]?.getD undef = .bool (sameX x0 x1) := by rw [← Array.getD_eq_getD_getElem?]; exact d34
    clear hs hd
    go_simp
    exact hK _ _ (Kept.refl (fun _ => False) wz) hC (fun _ => ST.mkLit rfl)
  · intro ls a wz hC hz hnew hwait hs hd K hK
    have d28 : a.tmps.getD 44 undef = .bool true := by
      obtain ⟨u, hu, hv⟩ := hd 28 44 (by kernel_rfl) (by kernel_rfl)
      rw [hu]; exact ST.lit (tbl := (tblT x0 x1 ao0 cp0 ao1 cp1 aw cw wh)) rfl hv
    have d28' : a.tmps[44]?.getD undef = .bool true := by rw [← Array.getD_eq_getD_getElem?]; exact d28
    have d35 : a.tmps.getD 51 undef = .bool true := by
      obtain ⟨u, hu, hv⟩ := hd 35 51 (by kernel_rfl) (by kernel_rfl)
      rw [hu]; exact ST.lit (tbl := (tblT x0 x1 ao0 cp0 ao1 cp1 aw cw wh)) rfl hv
    have d35' : a.tmps[51]?.getD undef = .bool true := by rw [← Array.getD_eq_getD_getElem?]; exact d35
    clear hs hd
    go_simp
    exact hK _ _ (Kept.refl (fun _ => False) wz) hC (fun _ => ST.mkLit rfl)
  · intro ls a wz hC hz hnew hwait hs hd K hK
    have d36 : a.tmps.getD 52 undef = .bool true := by
      obtain ⟨u, hu, hv⟩ := hd 36 52 (by kernel_rfl) (by kernel_rfl)
      rw [hu]; exact ST.lit (tbl := (tblT x0 x1 ao0 cp0 ao1 cp1 aw cw wh)) rfl hv
    have d36' : a.tmps[52]?.getD undef = .bool true := by rw [← Array.getD_eq_getD_getElem?]; exact d36
    clear hs hd
    go_simp
    exact hK _ _ (Kept.refl (fun _ => False) wz) hC (fun _ => ST.mkLit rfl)
  · intro ls a wz hC hz hnew hwait hs hd K hK
    have hbx := hC.box HB0.out (fun h => h)
    have c0 := hbx.cell 0
    have c1 := hbx.cell 1
    have c2 := hbx.cell 2
    have c3 := hbx.cell 3
    have c4 := hbx.cell 4
    have c5 := hbx.cell 5
    have c6 := hbx.cell 6
    have t3 := hs 3 _ (by kernel_rfl) rfl
    have t3' := t3
    rw [Array.getD_eq_getD_getElem?] at t3'
    clear hs hd hbx
    go_simp
    exact hK _ _ (Kept.refl (fun _ => False) wz) hC (fun _ => ST.mkLit rfl)
  · intro ls a wz hC hz hnew hwait hs hd K hK
    have d38 : a.tmps.getD 54 undef = .agg (richA x0.kind x0.dep (.slice ao0 x0.args.length cp0)) := by
      obtain ⟨u, hu, hv⟩ := hd 38 54 (by kernel_rfl) (by kernel_rfl)
      rw [hu]; exact ST.lit (tbl := (tblT x0 x1 ao0 cp0 ao1 cp1 aw cw wh)) rfl hv
    have d38' : a.tmps[54]?.getD undef = .agg (richA x0.kind x0.dep (.slice ao0 x0.args.length cp0)) := by rw [← Array.getD_eq_getD_getElem?]; exact d38
    clear hs hd
    go_simp
    refine (copy9_walk x0 _ wz (RichS.kept hC _ _ HR0.out) (by have := HC0.out; omega) HF0.out).mono ?_
    rintro e wv ⟨⟨v, rfl, hn, _⟩, hkv⟩
    exact hK _ _ hkv (hC.trans hkv (fun _ _ h => h)) (fun _ => ST.mkRich (x := x0) rfl hn.here)
  · intro ls a wz hC hz hnew hwait hs hd K hK
    have hbx := hC.box HB0.out (fun h => h)
    have c0 := hbx.cell 0
    have c1 := hbx.cell 1
    have c2 := hbx.cell 2
    have c3 := hbx.cell 3
    have c4 := hbx.cell 4
    have c5 := hbx.cell 5
    have c6 := hbx.cell 6
    have t3 := hs 3 _ (by kernel_rfl) rfl
    have t3' := t3
    rw [Array.getD_eq_getD_getElem?] at t3'
    clear hs hd hbx
    go_simp
    exact hK _ _ (Kept.refl (fun _ => False) wz) hC (fun _ => ST.mkLit rfl)
  · intro ls a wz hC hz hnew hwait hs hd K hK
    obtain ⟨v39, d39, hv39⟩ := hd 39 55 (by kernel_rfl) (by kernel_rfl)
    have hr39 := ST.rich (tbl := (tblT x0 x1 ao0 cp0 ao1 cp1 aw cw wh)) (x := x0) rfl hv39
    have d39' := d39
    rw [Array.getD_eq_getD_getElem?] at d39'
    clear hv39
    have d40 : a.tmps.getD 56 undef = .agg (richA x0.kind x0.dep (.slice ao0 x0.args.length cp0)) := by
      obtain ⟨u, hu, hv⟩ := hd 40 56 (by kernel_rfl) (by kernel_rfl)
      rw [hu]; exact ST.lit (tbl := (tblT x0 x1 ao0 cp0 ao1 cp1 aw cw wh)) rfl hv
    have d40' : a.tmps[56]?.getD undef = .agg (richA x0.kind x0.dep (.slice ao0 x0.args.length cp0)) := by rw [← Array.getD_eq_getD_getElem?]; exact d40
    clear hs hd
    go_simp
    have hq := sameR9_walk x0 x0 _ _ wz hr39 (RichS.kept hC _ _ HR0.out) HF0.out
    rw [(sameX_iff x0 x0).2 rfl] at hq
    refine hq.mono ?_
    rintro e wv ⟨rfl, hkv⟩
    exact hK _ _ hkv (hC.trans hkv (fun _ _ h => h)) (fun _ => ST.mkLit rfl)
  · intro ls a wz hC hz hnew hwait hs hd K hK
    have d37 : a.tmps.getD 53 undef = .bool true := by
      obtain ⟨u, hu, hv⟩ := hd 37 53 (by kernel_rfl) (by kernel_rfl)
      rw [hu]; exact ST.lit (tbl := (tblT x0 x1 ao0 cp0 ao1 cp1 aw cw wh)) rfl hv
    have d37' : a.tmps[53]?.getD undef = .bool true := by rw [← Array.getD_eq_getD_getElem?]; exact d37
    have d41 : a.tmps.getD 57 undef = .bool true := by
      obtain ⟨u, hu, hv⟩ := hd 41 57 (by kernel_rfl) (by kernel_rfl)
      rw [hu]; exact ST.lit (tbl := (tblT x0 x1 ao0 cp0 ao1 cp1 aw cw wh)) rfl hv
    have d41' : a.tmps[57]?.getD undef = .bool true := by rw [← Array.getD_eq_getD_getElem?]; exact d41
    clear hs hd
    go_simp
    exact hK _ _ (Kept.refl (fun _ => False) wz) hC (fun _ => ST.mkLit rfl)
  · intro ls a wz hC hz hnew hwait hs hd K hK
    have d42 : a.tmps.getD 58 undef = .bool true := by
      obtain ⟨u, hu, hv⟩ := hd 42 58 (by kernel_rfl) (by kernel_rfl)
      rw [hu]; exact ST.lit (tbl := (tblT x0 x1 ao0 cp0 ao1 cp1 aw cw wh)) rfl hv
    have d42' : a.tmps[58]?.getD undef = .bool true := by rw [← Array.getD_eq_getD_getElem?]; exact d42
    clear hs hd
    go_simp
    exact hK _ _ (Kept.refl (fun _ => False) wz) hC (fun _ => ST.mkLit rfl)
  · intro ls a wz hC hz hnew hwait hs hd K hK
    have hbx := hC.box HBW.out (fun h => h)
    have c0 := hbx.cell 0
    have c1 := hbx.cell 1
    have c2 := hbx.cell 2
    have c3 := hbx.cell 3
    have c4 := hbx.cell 4
    have c5 := hbx.cell 5
    have c6 := hbx.cell 6
    have t7 := hs 7 _ (by kernel_rfl) rfl
    have t7' := t7
    rw [Array.getD_eq_getD_getElem?] at t7'
    clear hs hd hbx
    go_simp
    exact hK _ _ (Kept.refl (fun _ => False) wz) hC (fun _ => ST.mkLit rfl)
  · intro ls a wz hC hz hnew hwait hs hd K hK
    have hbx := hC.box HB0.out (fun h => h)
    have c0 := hbx.cell 0
    have c1 := hbx.cell 1
    have c2 := hbx.cell 2
    have c3 := hbx.cell 3
    have c4 := hbx.cell 4
    have c5 := hbx.cell 5
    have c6 := hbx.cell 6
    have t3 := hs 3 _ (by kernel_rfl) rfl
    have t3' := t3
    rw [Array.getD_eq_getD_getElem?] at t3'
    clear hs hd hbx
    go_simp
    exact hK _ _ (Kept.refl (fun _ => False) wz) hC (fun _ => ST.mkLit rfl)
  · intro ls a wz hC hz hnew hwait hs hd K hK
    have d44 : a.tmps.getD 60 undef = .agg (richA x0.kind x0.dep (.slice aw x0.args.length cw)) := by
      obtain ⟨u, hu, hv⟩ := hd 44 60 (by kernel_rfl) (by kernel_rfl)
      rw [hu]; exact ST.lit (tbl := (tblT x0 x1 ao0 cp0 ao1 cp1 aw cw wh)) rfl hv
    have d44' : a.tmps[60]?.getD undef = .agg (richA x0.kind x0.dep (.slice aw x0.args.length cw)) := by rw [← Array.getD_eq_getD_getElem?]; exact d44
    have d45 : a.tmps.getD 61 undef = .agg (richA x0.kind x0.dep (.slice ao0 x0.args.length cp0)) := by
      obtain ⟨u, hu, hv⟩ := hd 45 61 (by kernel_rfl) (by kernel_rfl)
      rw [hu]; exact ST.lit (tbl := (tblT x0 x1 ao0 cp0 ao1 cp1 aw cw wh)) rfl hv
    have d45' : a.tmps[61]?.getD undef = .agg (richA x0.kind x0.dep (.slice ao0 x0.args.length cp0)) := by rw [← Array.getD_eq_getD_getElem?]; exact d45
    clear hs hd
    go_simp
    have hq := sameR9_walk x0 x0 _ _ wz (RichS.kept hC _ _ HRW.out) (RichS.kept hC _ _ HR0.out) HF0.out
    rw [(sameX_iff x0 x0).2 rfl] at hq
    refine hq.mono ?_
    rintro e wv ⟨rfl, hkv⟩
    exact hK _ _ hkv (hC.trans hkv (fun _ _ h => h)) (fun _ => ST.mkLit rfl)
  · intro ls a wz hC hz hnew hwait hs hd K hK
    have d43 : a.tmps.getD 59 undef = .bool true := by
      obtain ⟨u, hu, hv⟩ := hd 43 59 (by kernel_rfl) (by kernel_rfl)
      rw [hu]; exact ST.lit (tbl := (tblT x0 x1 ao0 cp0 ao1 cp1 aw cw wh)) rfl hv
    have d43' : a.tmps[59]?.getD undef = .bool true := by rw [← Array.getD_eq_getD_getElem?]; exact d43
    have d46 : a.tmps.getD 62 undef = .bool true := by
      obtain ⟨u, hu, hv⟩ := hd 46 62 (by kernel_rfl) (by kernel_rfl)
      rw [hu]; exact ST.lit (tbl := (tblT x0 x1 ao0 cp0 ao1 cp1 aw cw wh)) rfl hv
    have d46' : a.tmps[62]?.getD undef = .bool true := by rw [← Array.getD_eq_getD_getElem?]; exact d46
    clear hs hd
    go_simp
    exact hK _ _ (Kept.refl (fun _ => False) wz) hC (fun _ => ST.mkLit rfl)
  · intro ls a wz hC hz hnew hwait hs hd K hK
    have d47 : a.tmps.getD 63 undef = .bool true := by
      obtain ⟨u, hu, hv⟩ := hd 47 63 (by kernel_rfl) (by kernel_rfl)
      rw [hu]; exact ST.lit (tbl := (tblT x0 x1 ao0 cp0 ao1 cp1 aw cw wh)) rfl hv
    have d47' : a.tmps[63]?.getD undef = .bool true := by rw [← Array.getD_eq_getD_getElem?]; exact d47
    clear hs hd
    go_simp
    exact hK _ _ (Kept.refl (fun _ => False) wz) hC (fun _ => ST.mkLit rfl)
  intro ls wz hall hC
  intro v0 h0
  intro v1 h1
  intro v2 h2
  intro v3 h3
  intro v4 h4
  intro v5 h5
  intro v6 h6
  intro v7 h7
  intro v8 h8
  intro v9 h9
  intro v10 h10
  intro v11 h11
  intro v12 h12
  intro v13 h13
  intro v14 h14
  intro v15 h15
  intro v16 h16
  intro v17 h17
  intro v18 h18
  intro v19 h19
  intro v20 h20
  intro v21 h21
  intro v22 h22
  intro v23 h23
  intro v24 h24
  intro v25 h25
  intro v26 h26
  intro v27 h27
  intro v28 h28
  intro v29 h29
  intro v30 h30
  intro v31 h31
  intro v32 h32
  intro v33 h33
  intro v34 h34
  intro v35 h35
  intro v36 h36
  intro v37 h37
  intro v38 h38
  intro v39 h39
  intro v40 h40
  intro v41 h41
  intro v42 h42
  intro v43 h43
  intro v44 h44
  intro v45 h45
  intro v46 h46
  intro v47 h47
  intro v48 h48
  have hz := ST.lit (tbl := (tblT x0 x1 ao0 cp0 ao1 cp1 aw cw wh)) (u := .bool true) rfl h48
  subst hz
  clear hall h0 h1 h2 h3 h4 h5 h6 h7 h8 h9 h10 h11 h12 h13 h14 h15 h16 h17 h18 h19 h20 h21 h22 h23 h24 h25 h26 h27 h28 h29 h30 h31 h32 h33 h34 h35 h36 h37 h38 h39 h40 h41 h42 h43 h44 h45 h46 h47
  simp only [EndsP]
  go_simp
  go_wp2_with fail
  go_ret
  exact ⟨rfl, HK.out.trans hC (fun _ _ h => h)⟩
theorem shapetells_walk (w : World) (hTB : TabW9 w) (hMB : MayP9 w) (x0 x1 : R) (v0 v1 : Value) (hr0 : RichS w x0 v0) (hr1 : RichS w x1 v1) (hf0 : fitsX x0) (_ : fitsX x1) (wh : Nat) (_ : wh < 256) :
    Calls Tryd.prog 4 #[v0, v1, .int .u8 (wh : Int)] w fun e w' => e = .returned (.bool true) ∧ Kept (fun _ => False) w w' := by
  obtain ⟨a0, c0, rfl⟩ := rich_formX hr0
  obtain ⟨a1, c1, rfl⟩ := rich_formX hr1
  exact shapetells_core w hTB hMB x0 x1 a0 a1 c0 c1 hr0 hr1 hf0 wh
end Go.Proofs.YtndakcognjaeoaaDoor
